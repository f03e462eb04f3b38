import Derived.Test.YtlamppplnojpbaaJa
import Derived.Maps.OwnIn
import Derived.Maps.AppendAt
import Derived.RangeFuncNested
import Derived.RangeFuncBound
import Derived.RangeFuncCalls
import Derived.RangeFuncLeaves
import Derived.Shelf.Abstract
import Derived.Shelf.RegionOpen
import Derived.WalkKit
import Derived.OwnWalkIn
import Derived.TacticsInMore
import Derived.LoopNIn
import Derived.LoopIn
import Derived.WalkSpells
import Derived.WalkLawsBesides
import Derived.BigQuiet
import Derived.Deep.QuietTactic
import Derived.Lib.Hide
import Derived.Deep.RegionHeld3
import Derived.StillTailTactics
import Derived.Deep.LoopGhost
import Derived.Maps.OwnSet
import Derived.Lib.IndexAny
import Derived.Sort.QuietThIn
import Derived.Sort.QuietTacIn
import Derived.Sort.BigQuietIn
namespace Go.Proofs.Ytlamppplnojpbaa
open Go.RowKit Go.Shelf
attribute [local go_sem] Oper.semAt_some
/-- the jugs as the program keeps them -/
def jugV (zs : List Int) : Value := .agg (#[.int .i64 (zs.length : Int)] ++ ((padF zs).map encI).toArray)
set_option maxRecDepth 100000 in
set_option maxHeartbeats 400000 in
theorem jugsOf_any (zs : List Int) (v : Value) (w : World) (hv : SlI w v zs) (hl : zs.length ≤ 4) :
    Calls Try.prog 51 #[v] w fun e w' => e = .returned (jugV zs) ∧ Below w.heap.size w w' := by
  have hb0 := Below.alloc (Below.refl w.heap.size w) (Nat.le_refl _) (.cells #[.int .i64 0, .int .i64 0, .int .i64 0, .int .i64 0, .int .i64 0] 80)
  have HF := fillingOf_any zs v _ (hv.grow hb0) hl
  have r0 := Row.new w 80 [.int .i64 0, .int .i64 0, .int .i64 0, .int .i64 0, .int .i64 0]
  have R0 := Lib.hid r0
  have B0 := Lib.hid hb0
  obtain ⟨a, c, rfl, hc, hs⟩ := hv
  have hpl := padF_len zs
  unfold jugV
  unfold aggI at HF
  generalize padF zs = P at *
  obtain ⟨p0, p1, p2, p3, rfl⟩ : ∃ p0 p1 p2 p3, P = [p0, p1, p2, p3] := by
    match P, hpl with
    | [a, b, c, d], _ => exact ⟨a, b, c, d, rfl⟩
  simp only [List.map_cons, List.map_nil, encI] at HF ⊢
  have HF := Lib.hid HF
  clear hs hpl hb0 r0
  go_enter Try.func51, Try.ntmps51
  go_wp2_with fail
  refine HF.out.mono ?_
  rintro e w1 ⟨rfl, hb⟩
  have B1 := Lib.hid (Below.andThen B0.out hb (by simp))
  have r1 := R0.out.below hb R0.out.lt
  have R1 := Lib.hid r1
  have z0 := r1.cell 0
  have z1 := r1.cell 1
  have z2 := r1.cell 2
  have z3 := r1.cell 3
  have z4 := r1.cell 4
  have f0 := frozen_of_row _ w.heap.size 0 _ _ r1
  have f1 := frozen_of_row _ w.heap.size 1 _ _ r1
  have f2 := frozen_of_row _ w.heap.size 2 _ _ r1
  have f3 := frozen_of_row _ w.heap.size 3 _ _ r1
  have f4 := frozen_of_row _ w.heap.size 4 _ _ r1
  simp only [List.getElem?_cons_zero, List.getElem?_cons_succ] at z0 z1 z2 z3 z4
  clear hb HF r1 B0 R0
  go_wp2_with fail
  have hr : Row (((((w1.setCell ⟨w.heap.size, 0, none⟩ (.int .i64 (zs.length : Int))).setCell ⟨w.heap.size, 1, none⟩ (.int .i64 p0)).setCell ⟨w.heap.size, 2, none⟩ (.int .i64 p1)).setCell ⟨w.heap.size, 3, none⟩ (.int .i64 p2)).setCell ⟨w.heap.size, 4, none⟩ (.int .i64 p3)) w.heap.size 80 [.int .i64 (zs.length : Int), .int .i64 p0, .int .i64 p1, .int .i64 p2, .int .i64 p3] := by
    simpa using ((((R1.out.set 0 (.int .i64 (zs.length : Int))).set 1 (.int .i64 p0)).set 2 (.int .i64 p1)).set 3 (.int .i64 p2)).set 4 (.int .i64 p3)
  have v0 := hr.cell 0
  have v1 := hr.cell 1
  have v2 := hr.cell 2
  have v3 := hr.cell 3
  have v4 := hr.cell 4
  simp only [List.getElem?_cons_zero, List.getElem?_cons_succ] at v0 v1 v2 v3 v4
  refine bodyPost_ret (v := .agg #[.int .i64 (zs.length : Int), .int .i64 p0, .int .i64 p1, .int .i64 p2, .int .i64 p3]) (by simp [results, Try.results51, go_sem, v0, v1, v2, v3, v4]) rfl ⟨rfl, ?_⟩
  exact ((((B1.out.setCell (p := ⟨w.heap.size, 0, none⟩) (Nat.le_refl _) _).setCell (p := ⟨w.heap.size, 1, none⟩) (Nat.le_refl _) _).setCell (p := ⟨w.heap.size, 2, none⟩) (Nat.le_refl _) _).setCell (p := ⟨w.heap.size, 3, none⟩) (Nat.le_refl _) _).setCell (p := ⟨w.heap.size, 4, none⟩) (Nat.le_refl _) _
/-- the filling that a step makes -/
def afterF (P F : List Int) (f t : Int) : List Int :=
  if f = -1 then F.set t.toNat (P.getD t.toNat 0)
  else if t = -1 then F.set f.toNat 0
  else (F.set f.toNat (F.getD f.toNat 0 - min (F.getD f.toNat 0) (P.getD t.toNat 0 - F.getD t.toNat 0))).set t.toNat (F.getD t.toNat 0 + min (F.getD f.toNat 0) (P.getD t.toNat 0 - F.getD t.toNat 0))
theorem after_start (w : World) (J F S R : List Value) : ∃ V, V = (((w.alloc (.cells J.toArray 80)).alloc (.cells F.toArray 77)).alloc (.cells S.toArray 48)).alloc (.cells R.toArray 77) ∧
    Row V w.heap.size 80 J ∧ Row V (w.heap.size + 1) 77 F ∧ Row V (w.heap.size + 1 + 1) 48 S ∧ Row V (w.heap.size + 1 + 1 + 1) 77 R ∧ Below w.heap.size w V ∧ V.heap.size = w.heap.size + 4 := by
  obtain ⟨w1, h1⟩ : ∃ w1, w1 = w.alloc (.cells J.toArray 80) := ⟨_, rfl⟩
  obtain ⟨w2, h2⟩ : ∃ w2, w2 = w1.alloc (.cells F.toArray 77) := ⟨_, rfl⟩
  obtain ⟨w3, h3⟩ : ∃ w3, w3 = w2.alloc (.cells S.toArray 48) := ⟨_, rfl⟩
  obtain ⟨w4, h4⟩ : ∃ w4, w4 = w3.alloc (.cells R.toArray 77) := ⟨_, rfl⟩
  have s1 : w1.heap.size = w.heap.size + 1 := by rw [h1, size_al]
  have s2 : w2.heap.size = w.heap.size + 1 + 1 := by rw [h2, size_al, s1]
  have s3 : w3.heap.size = w.heap.size + 1 + 1 + 1 := by rw [h3, size_al, s2]
  have s4 : w4.heap.size = w.heap.size + 4 := by rw [h4, size_al, s3]
  have b1 : Below w.heap.size w w1 := by rw [h1]; exact Below.al (Below.refl _ _) (Nat.le_refl _) _
  have b2 : Below w1.heap.size w1 w2 := by rw [h2]; exact Below.al (Below.refl _ _) (Nat.le_refl _) _
  have b3 : Below w2.heap.size w2 w3 := by rw [h3]; exact Below.al (Below.refl _ _) (Nat.le_refl _) _
  have b4 : Below w3.heap.size w3 w4 := by rw [h4]; exact Below.al (Below.refl _ _) (Nat.le_refl _) _
  have r1 : Row w1 w.heap.size 80 J := by rw [h1]; exact Row.new _ _ _
  have r2 : Row w2 (w.heap.size + 1) 77 F := by rw [h2, ← s1]; exact Row.new _ _ _
  have r3 : Row w3 (w.heap.size + 1 + 1) 48 S := by rw [h3, ← s2]; exact Row.new _ _ _
  have r4 : Row w4 (w.heap.size + 1 + 1 + 1) 77 R := by rw [h4, ← s3]; exact Row.new _ _ _
  refine ⟨w4, by rw [h4, h3, h2, h1], ?_, ?_, ?_, r4, ?_, s4⟩
  · exact ((r1.below b2 r1.lt).below b3 (by omega)).below b4 (by omega)
  · exact (r2.below b3 r2.lt).below b4 (by omega)
  · exact r3.below b4 r3.lt
  · exact Below.andThen (Below.andThen (Below.andThen b1 b2 (Nat.le_refl _)) b3 (Nat.le_refl _)) b4 (Nat.le_refl _)
theorem agg4 (F : List Int) (h : F.length = 4) : ∃ f0 f1 f2 f3, F = [f0, f1, f2, f3] := by
  match F, h with
  | [a, b, c, d], _ => exact ⟨a, b, c, d, rfl⟩
theorem getI (F : List Int) (i : Nat) (h : i < F.length) : (F.map encI)[i]? = some (.int .i64 (F.getD i 0)) := by
  rw [List.getElem?_map, List.getElem?_eq_getElem h]; simp [encI, List.getD, h]
theorem Row.other {W : World} {g g' : Nat} {E : TypeId} {vs : List Value} (h : Row W g E vs) (i : Nat) (v : Value) (hne : g ≠ g') : Row (W.setCell ⟨g', i, none⟩ v) g E vs := by
  unfold Row; rw [Below.heap_setCell _ _ _ _ hne]; exact h
set_option maxRecDepth 100000 in
set_option maxHeartbeats 1000000 in
theorem after_s_0 (n p0 p1 p2 p3 f0 f1 f2 f3 : Int) (w : World) :
    Calls Try.prog 54 #[.agg #[.int .i64 n, .int .i64 p0, .int .i64 p1, .int .i64 p2, .int .i64 p3], .agg #[.int .i64 f0, .int .i64 f1, .int .i64 f2, .int .i64 f3], .agg #[.int .i64 (-1), .int .i64 0]] w fun e w' => e = .returned (aggI (afterF [p0, p1, p2, p3] [f0, f1, f2, f3] (-1) 0)) ∧ Below w.heap.size w w' := by
  obtain ⟨V, hV, rJ, rF, rS, rR, hb, hsz⟩ := after_start w [.int .i64 n, .int .i64 p0, .int .i64 p1, .int .i64 p2, .int .i64 p3] [.int .i64 f0, .int .i64 f1, .int .i64 f2, .int .i64 f3] [.int .i64 (-1), .int .i64 0] [.int .i64 0, .int .i64 0, .int .i64 0, .int .i64 0]
  have FIN : Hid (aggI (afterF [p0, p1, p2, p3] [f0, f1, f2, f3] (-1) 0) = .agg #[.int .i64 p0, .int .i64 f1, .int .i64 f2, .int .i64 f3]) := Lib.hid (by simp [afterF, aggI, encI])
  rw [FIN.out]
  have HV := Lib.hid hV
  have RJ := Lib.hid rJ
  have RF := Lib.hid rF
  have RR := Lib.hid rR
  have B0 := Lib.hid hb
  have s0 := rS.cell 0
  have s1 := rS.cell 1
  simp only [List.getElem?_cons_zero, List.getElem?_cons_succ] at s0 s1
  have u0 := Kl.cell rS.lt s0
  have u1 := Kl.cell rS.lt s1
  clear hV rJ rF rS rR hb hsz s0 s1
  go_enter Try.func54, Try.ntmps54
  go_wp2_with fail
  rw [← HV.out]
  refine wp_region_below (by kernel_rfl) (by kernel_rfl) ?_
  repeat (go_big_quiet_step (fail))
  refine wpQuiet_nil ?_
  rintro _ ⟨wq, rfl⟩
  have BQ := Lib.hid wq.h
  generalize wq.W = w2 at *
  clear u0 u1
  have rJ := RJ.out.below BQ.out RJ.out.lt
  have rF := RF.out.below BQ.out RF.out.lt
  have rR := RR.out.below BQ.out RR.out.lt
  have RF2 := Lib.hid rF
  have RR2 := Lib.hid rR
  have j1 := rJ.cell 1
  have j2 := rJ.cell 2
  have j3 := rJ.cell 3
  have j4 := rJ.cell 4
  have c0 := rF.cell 0
  have c1 := rF.cell 1
  have c2 := rF.cell 2
  have c3 := rF.cell 3
  have z0 := rR.cell 0
  have z1 := rR.cell 1
  have z2 := rR.cell 2
  have z3 := rR.cell 3
  have k0 := frozen_of_row _ (w.heap.size + 1) 0 _ _ rF
  have k1 := frozen_of_row _ (w.heap.size + 1) 1 _ _ rF
  have k2 := frozen_of_row _ (w.heap.size + 1) 2 _ _ rF
  have k3 := frozen_of_row _ (w.heap.size + 1) 3 _ _ rF
  have l0 := frozen_of_row _ (w.heap.size + 1 + 1 + 1) 0 _ _ rR
  have l1 := frozen_of_row _ (w.heap.size + 1 + 1 + 1) 1 _ _ rR
  have l2 := frozen_of_row _ (w.heap.size + 1 + 1 + 1) 2 _ _ rR
  have l3 := frozen_of_row _ (w.heap.size + 1 + 1 + 1) 3 _ _ rR
  simp only [List.getElem?_cons_zero, List.getElem?_cons_succ] at j1 j2 j3 j4 c0 c1 c2 c3 z0 z1 z2 z3
  clear rJ rF rR
  go_wp2_with fail
  have hr : Row (((((w2.setCell ⟨w.heap.size + 1, 0, none⟩ (.int .i64 p0)).setCell ⟨w.heap.size + 1 + 1 + 1, 0, none⟩ (.int .i64 p0)).setCell ⟨w.heap.size + 1 + 1 + 1, 1, none⟩ (.int .i64 f1)).setCell ⟨w.heap.size + 1 + 1 + 1, 2, none⟩ (.int .i64 f2)).setCell ⟨w.heap.size + 1 + 1 + 1, 3, none⟩ (.int .i64 f3)) (w.heap.size + 1 + 1 + 1) 77 [.int .i64 p0, .int .i64 f1, .int .i64 f2, .int .i64 f3] := by
    simpa using (((((RR2.out.other (0) (.int .i64 p0) (g' := w.heap.size + 1) (by omega)).set 0 (.int .i64 p0)).set 1 (.int .i64 f1)).set 2 (.int .i64 f2)).set 3 (.int .i64 f3))
  have v0 := hr.cell 0
  have v1 := hr.cell 1
  have v2 := hr.cell 2
  have v3 := hr.cell 3
  simp only [List.getElem?_cons_zero, List.getElem?_cons_succ] at v0 v1 v2 v3
  refine bodyPost_ret (v := .agg #[.int .i64 p0, .int .i64 f1, .int .i64 f2, .int .i64 f3]) (by simp [results, Try.results54, go_sem, v0, v1, v2, v3]) rfl ⟨rfl, ?_⟩
  exact ((((((Below.andThen B0.out BQ.out (Nat.le_refl _)).setCell (p := ⟨w.heap.size + 1, 0, none⟩) (by dsimp only; omega) (.int .i64 p0)).setCell (p := ⟨w.heap.size + 1 + 1 + 1, 0, none⟩) (by dsimp only; omega) (.int .i64 p0)).setCell (p := ⟨w.heap.size + 1 + 1 + 1, 1, none⟩) (by dsimp only; omega) (.int .i64 f1)).setCell (p := ⟨w.heap.size + 1 + 1 + 1, 2, none⟩) (by dsimp only; omega) (.int .i64 f2)).setCell (p := ⟨w.heap.size + 1 + 1 + 1, 3, none⟩) (by dsimp only; omega) (.int .i64 f3))
set_option maxRecDepth 100000 in
set_option maxHeartbeats 1000000 in
theorem after_s_1 (n p0 p1 p2 p3 f0 f1 f2 f3 : Int) (w : World) :
    Calls Try.prog 54 #[.agg #[.int .i64 n, .int .i64 p0, .int .i64 p1, .int .i64 p2, .int .i64 p3], .agg #[.int .i64 f0, .int .i64 f1, .int .i64 f2, .int .i64 f3], .agg #[.int .i64 (-1), .int .i64 1]] w fun e w' => e = .returned (aggI (afterF [p0, p1, p2, p3] [f0, f1, f2, f3] (-1) 1)) ∧ Below w.heap.size w w' := by
  obtain ⟨V, hV, rJ, rF, rS, rR, hb, hsz⟩ := after_start w [.int .i64 n, .int .i64 p0, .int .i64 p1, .int .i64 p2, .int .i64 p3] [.int .i64 f0, .int .i64 f1, .int .i64 f2, .int .i64 f3] [.int .i64 (-1), .int .i64 1] [.int .i64 0, .int .i64 0, .int .i64 0, .int .i64 0]
  have FIN : Hid (aggI (afterF [p0, p1, p2, p3] [f0, f1, f2, f3] (-1) 1) = .agg #[.int .i64 f0, .int .i64 p1, .int .i64 f2, .int .i64 f3]) := Lib.hid (by simp [afterF, aggI, encI])
  rw [FIN.out]
  have HV := Lib.hid hV
  have RJ := Lib.hid rJ
  have RF := Lib.hid rF
  have RR := Lib.hid rR
  have B0 := Lib.hid hb
  have s0 := rS.cell 0
  have s1 := rS.cell 1
  simp only [List.getElem?_cons_zero, List.getElem?_cons_succ] at s0 s1
  have u0 := Kl.cell rS.lt s0
  have u1 := Kl.cell rS.lt s1
  clear hV rJ rF rS rR hb hsz s0 s1
  go_enter Try.func54, Try.ntmps54
  go_wp2_with fail
  rw [← HV.out]
  refine wp_region_below (by kernel_rfl) (by kernel_rfl) ?_
  repeat (go_big_quiet_step (fail))
  refine wpQuiet_nil ?_
  rintro _ ⟨wq, rfl⟩
  have BQ := Lib.hid wq.h
  generalize wq.W = w2 at *
  clear u0 u1
  have rJ := RJ.out.below BQ.out RJ.out.lt
  have rF := RF.out.below BQ.out RF.out.lt
  have rR := RR.out.below BQ.out RR.out.lt
  have RF2 := Lib.hid rF
  have RR2 := Lib.hid rR
  have j1 := rJ.cell 1
  have j2 := rJ.cell 2
  have j3 := rJ.cell 3
  have j4 := rJ.cell 4
  have c0 := rF.cell 0
  have c1 := rF.cell 1
  have c2 := rF.cell 2
  have c3 := rF.cell 3
  have z0 := rR.cell 0
  have z1 := rR.cell 1
  have z2 := rR.cell 2
  have z3 := rR.cell 3
  have k0 := frozen_of_row _ (w.heap.size + 1) 0 _ _ rF
  have k1 := frozen_of_row _ (w.heap.size + 1) 1 _ _ rF
  have k2 := frozen_of_row _ (w.heap.size + 1) 2 _ _ rF
  have k3 := frozen_of_row _ (w.heap.size + 1) 3 _ _ rF
  have l0 := frozen_of_row _ (w.heap.size + 1 + 1 + 1) 0 _ _ rR
  have l1 := frozen_of_row _ (w.heap.size + 1 + 1 + 1) 1 _ _ rR
  have l2 := frozen_of_row _ (w.heap.size + 1 + 1 + 1) 2 _ _ rR
  have l3 := frozen_of_row _ (w.heap.size + 1 + 1 + 1) 3 _ _ rR
  simp only [List.getElem?_cons_zero, List.getElem?_cons_succ] at j1 j2 j3 j4 c0 c1 c2 c3 z0 z1 z2 z3
  clear rJ rF rR
  go_wp2_with fail
  have hr : Row (((((w2.setCell ⟨w.heap.size + 1, 1, none⟩ (.int .i64 p1)).setCell ⟨w.heap.size + 1 + 1 + 1, 0, none⟩ (.int .i64 f0)).setCell ⟨w.heap.size + 1 + 1 + 1, 1, none⟩ (.int .i64 p1)).setCell ⟨w.heap.size + 1 + 1 + 1, 2, none⟩ (.int .i64 f2)).setCell ⟨w.heap.size + 1 + 1 + 1, 3, none⟩ (.int .i64 f3)) (w.heap.size + 1 + 1 + 1) 77 [.int .i64 f0, .int .i64 p1, .int .i64 f2, .int .i64 f3] := by
    simpa using (((((RR2.out.other (1) (.int .i64 p1) (g' := w.heap.size + 1) (by omega)).set 0 (.int .i64 f0)).set 1 (.int .i64 p1)).set 2 (.int .i64 f2)).set 3 (.int .i64 f3))
  have v0 := hr.cell 0
  have v1 := hr.cell 1
  have v2 := hr.cell 2
  have v3 := hr.cell 3
  simp only [List.getElem?_cons_zero, List.getElem?_cons_succ] at v0 v1 v2 v3
  refine bodyPost_ret (v := .agg #[.int .i64 f0, .int .i64 p1, .int .i64 f2, .int .i64 f3]) (by simp [results, Try.results54, go_sem, v0, v1, v2, v3]) rfl ⟨rfl, ?_⟩
  exact ((((((Below.andThen B0.out BQ.out (Nat.le_refl _)).setCell (p := ⟨w.heap.size + 1, 1, none⟩) (by dsimp only; omega) (.int .i64 p1)).setCell (p := ⟨w.heap.size + 1 + 1 + 1, 0, none⟩) (by dsimp only; omega) (.int .i64 f0)).setCell (p := ⟨w.heap.size + 1 + 1 + 1, 1, none⟩) (by dsimp only; omega) (.int .i64 p1)).setCell (p := ⟨w.heap.size + 1 + 1 + 1, 2, none⟩) (by dsimp only; omega) (.int .i64 f2)).setCell (p := ⟨w.heap.size + 1 + 1 + 1, 3, none⟩) (by dsimp only; omega) (.int .i64 f3))
set_option maxRecDepth 100000 in
set_option maxHeartbeats 1000000 in
theorem after_s_2 (n p0 p1 p2 p3 f0 f1 f2 f3 : Int) (w : World) :
    Calls Try.prog 54 #[.agg #[.int .i64 n, .int .i64 p0, .int .i64 p1, .int .i64 p2, .int .i64 p3], .agg #[.int .i64 f0, .int .i64 f1, .int .i64 f2, .int .i64 f3], .agg #[.int .i64 (-1), .int .i64 2]] w fun e w' => e = .returned (aggI (afterF [p0, p1, p2, p3] [f0, f1, f2, f3] (-1) 2)) ∧ Below w.heap.size w w' := by
  obtain ⟨V, hV, rJ, rF, rS, rR, hb, hsz⟩ := after_start w [.int .i64 n, .int .i64 p0, .int .i64 p1, .int .i64 p2, .int .i64 p3] [.int .i64 f0, .int .i64 f1, .int .i64 f2, .int .i64 f3] [.int .i64 (-1), .int .i64 2] [.int .i64 0, .int .i64 0, .int .i64 0, .int .i64 0]
  have FIN : Hid (aggI (afterF [p0, p1, p2, p3] [f0, f1, f2, f3] (-1) 2) = .agg #[.int .i64 f0, .int .i64 f1, .int .i64 p2, .int .i64 f3]) := Lib.hid (by simp [afterF, aggI, encI])
  rw [FIN.out]
  have HV := Lib.hid hV
  have RJ := Lib.hid rJ
  have RF := Lib.hid rF
  have RR := Lib.hid rR
  have B0 := Lib.hid hb
  have s0 := rS.cell 0
  have s1 := rS.cell 1
  simp only [List.getElem?_cons_zero, List.getElem?_cons_succ] at s0 s1
  have u0 := Kl.cell rS.lt s0
  have u1 := Kl.cell rS.lt s1
  clear hV rJ rF rS rR hb hsz s0 s1
  go_enter Try.func54, Try.ntmps54
  go_wp2_with fail
  rw [← HV.out]
  refine wp_region_below (by kernel_rfl) (by kernel_rfl) ?_
  repeat (go_big_quiet_step (fail))
  refine wpQuiet_nil ?_
  rintro _ ⟨wq, rfl⟩
  have BQ := Lib.hid wq.h
  generalize wq.W = w2 at *
  clear u0 u1
  have rJ := RJ.out.below BQ.out RJ.out.lt
  have rF := RF.out.below BQ.out RF.out.lt
  have rR := RR.out.below BQ.out RR.out.lt
  have RF2 := Lib.hid rF
  have RR2 := Lib.hid rR
  have j1 := rJ.cell 1
  have j2 := rJ.cell 2
  have j3 := rJ.cell 3
  have j4 := rJ.cell 4
  have c0 := rF.cell 0
  have c1 := rF.cell 1
  have c2 := rF.cell 2
  have c3 := rF.cell 3
  have z0 := rR.cell 0
  have z1 := rR.cell 1
  have z2 := rR.cell 2
  have z3 := rR.cell 3
  have k0 := frozen_of_row _ (w.heap.size + 1) 0 _ _ rF
  have k1 := frozen_of_row _ (w.heap.size + 1) 1 _ _ rF
  have k2 := frozen_of_row _ (w.heap.size + 1) 2 _ _ rF
  have k3 := frozen_of_row _ (w.heap.size + 1) 3 _ _ rF
  have l0 := frozen_of_row _ (w.heap.size + 1 + 1 + 1) 0 _ _ rR
  have l1 := frozen_of_row _ (w.heap.size + 1 + 1 + 1) 1 _ _ rR
  have l2 := frozen_of_row _ (w.heap.size + 1 + 1 + 1) 2 _ _ rR
  have l3 := frozen_of_row _ (w.heap.size + 1 + 1 + 1) 3 _ _ rR
  simp only [List.getElem?_cons_zero, List.getElem?_cons_succ] at j1 j2 j3 j4 c0 c1 c2 c3 z0 z1 z2 z3
  clear rJ rF rR
  go_wp2_with fail
  have hr : Row (((((w2.setCell ⟨w.heap.size + 1, 2, none⟩ (.int .i64 p2)).setCell ⟨w.heap.size + 1 + 1 + 1, 0, none⟩ (.int .i64 f0)).setCell ⟨w.heap.size + 1 + 1 + 1, 1, none⟩ (.int .i64 f1)).setCell ⟨w.heap.size + 1 + 1 + 1, 2, none⟩ (.int .i64 p2)).setCell ⟨w.heap.size + 1 + 1 + 1, 3, none⟩ (.int .i64 f3)) (w.heap.size + 1 + 1 + 1) 77 [.int .i64 f0, .int .i64 f1, .int .i64 p2, .int .i64 f3] := by
    simpa using (((((RR2.out.other (2) (.int .i64 p2) (g' := w.heap.size + 1) (by omega)).set 0 (.int .i64 f0)).set 1 (.int .i64 f1)).set 2 (.int .i64 p2)).set 3 (.int .i64 f3))
  have v0 := hr.cell 0
  have v1 := hr.cell 1
  have v2 := hr.cell 2
  have v3 := hr.cell 3
  simp only [List.getElem?_cons_zero, List.getElem?_cons_succ] at v0 v1 v2 v3
  refine bodyPost_ret (v := .agg #[.int .i64 f0, .int .i64 f1, .int .i64 p2, .int .i64 f3]) (by simp [results, Try.results54, go_sem, v0, v1, v2, v3]) rfl ⟨rfl, ?_⟩
  exact ((((((Below.andThen B0.out BQ.out (Nat.le_refl _)).setCell (p := ⟨w.heap.size + 1, 2, none⟩) (by dsimp only; omega) (.int .i64 p2)).setCell (p := ⟨w.heap.size + 1 + 1 + 1, 0, none⟩) (by dsimp only; omega) (.int .i64 f0)).setCell (p := ⟨w.heap.size + 1 + 1 + 1, 1, none⟩) (by dsimp only; omega) (.int .i64 f1)).setCell (p := ⟨w.heap.size + 1 + 1 + 1, 2, none⟩) (by dsimp only; omega) (.int .i64 p2)).setCell (p := ⟨w.heap.size + 1 + 1 + 1, 3, none⟩) (by dsimp only; omega) (.int .i64 f3))
set_option maxRecDepth 100000 in
set_option maxHeartbeats 1000000 in
theorem after_s_3 (n p0 p1 p2 p3 f0 f1 f2 f3 : Int) (w : World) :
    Calls Try.prog 54 #[.agg #[.int .i64 n, .int .i64 p0, .int .i64 p1, .int .i64 p2, .int .i64 p3], .agg #[.int .i64 f0, .int .i64 f1, .int .i64 f2, .int .i64 f3], .agg #[.int .i64 (-1), .int .i64 3]] w fun e w' => e = .returned (aggI (afterF [p0, p1, p2, p3] [f0, f1, f2, f3] (-1) 3)) ∧ Below w.heap.size w w' := by
  obtain ⟨V, hV, rJ, rF, rS, rR, hb, hsz⟩ := after_start w [.int .i64 n, .int .i64 p0, .int .i64 p1, .int .i64 p2, .int .i64 p3] [.int .i64 f0, .int .i64 f1, .int .i64 f2, .int .i64 f3] [.int .i64 (-1), .int .i64 3] [.int .i64 0, .int .i64 0, .int .i64 0, .int .i64 0]
  have FIN : Hid (aggI (afterF [p0, p1, p2, p3] [f0, f1, f2, f3] (-1) 3) = .agg #[.int .i64 f0, .int .i64 f1, .int .i64 f2, .int .i64 p3]) := Lib.hid (by simp [afterF, aggI, encI])
  rw [FIN.out]
  have HV := Lib.hid hV
  have RJ := Lib.hid rJ
  have RF := Lib.hid rF
  have RR := Lib.hid rR
  have B0 := Lib.hid hb
  have s0 := rS.cell 0
  have s1 := rS.cell 1
  simp only [List.getElem?_cons_zero, List.getElem?_cons_succ] at s0 s1
  have u0 := Kl.cell rS.lt s0
  have u1 := Kl.cell rS.lt s1
  clear hV rJ rF rS rR hb hsz s0 s1
  go_enter Try.func54, Try.ntmps54
  go_wp2_with fail
  rw [← HV.out]
  refine wp_region_below (by kernel_rfl) (by kernel_rfl) ?_
  repeat (go_big_quiet_step (fail))
  refine wpQuiet_nil ?_
  rintro _ ⟨wq, rfl⟩
  have BQ := Lib.hid wq.h
  generalize wq.W = w2 at *
  clear u0 u1
  have rJ := RJ.out.below BQ.out RJ.out.lt
  have rF := RF.out.below BQ.out RF.out.lt
  have rR := RR.out.below BQ.out RR.out.lt
  have RF2 := Lib.hid rF
  have RR2 := Lib.hid rR
  have j1 := rJ.cell 1
  have j2 := rJ.cell 2
  have j3 := rJ.cell 3
  have j4 := rJ.cell 4
  have c0 := rF.cell 0
  have c1 := rF.cell 1
  have c2 := rF.cell 2
  have c3 := rF.cell 3
  have z0 := rR.cell 0
  have z1 := rR.cell 1
  have z2 := rR.cell 2
  have z3 := rR.cell 3
  have k0 := frozen_of_row _ (w.heap.size + 1) 0 _ _ rF
  have k1 := frozen_of_row _ (w.heap.size + 1) 1 _ _ rF
  have k2 := frozen_of_row _ (w.heap.size + 1) 2 _ _ rF
  have k3 := frozen_of_row _ (w.heap.size + 1) 3 _ _ rF
  have l0 := frozen_of_row _ (w.heap.size + 1 + 1 + 1) 0 _ _ rR
  have l1 := frozen_of_row _ (w.heap.size + 1 + 1 + 1) 1 _ _ rR
  have l2 := frozen_of_row _ (w.heap.size + 1 + 1 + 1) 2 _ _ rR
  have l3 := frozen_of_row _ (w.heap.size + 1 + 1 + 1) 3 _ _ rR
  simp only [List.getElem?_cons_zero, List.getElem?_cons_succ] at j1 j2 j3 j4 c0 c1 c2 c3 z0 z1 z2 z3
  clear rJ rF rR
  go_wp2_with fail
  have hr : Row (((((w2.setCell ⟨w.heap.size + 1, 3, none⟩ (.int .i64 p3)).setCell ⟨w.heap.size + 1 + 1 + 1, 0, none⟩ (.int .i64 f0)).setCell ⟨w.heap.size + 1 + 1 + 1, 1, none⟩ (.int .i64 f1)).setCell ⟨w.heap.size + 1 + 1 + 1, 2, none⟩ (.int .i64 f2)).setCell ⟨w.heap.size + 1 + 1 + 1, 3, none⟩ (.int .i64 p3)) (w.heap.size + 1 + 1 + 1) 77 [.int .i64 f0, .int .i64 f1, .int .i64 f2, .int .i64 p3] := by
    simpa using (((((RR2.out.other (3) (.int .i64 p3) (g' := w.heap.size + 1) (by omega)).set 0 (.int .i64 f0)).set 1 (.int .i64 f1)).set 2 (.int .i64 f2)).set 3 (.int .i64 p3))
  have v0 := hr.cell 0
  have v1 := hr.cell 1
  have v2 := hr.cell 2
  have v3 := hr.cell 3
  simp only [List.getElem?_cons_zero, List.getElem?_cons_succ] at v0 v1 v2 v3
  refine bodyPost_ret (v := .agg #[.int .i64 f0, .int .i64 f1, .int .i64 f2, .int .i64 p3]) (by simp [results, Try.results54, go_sem, v0, v1, v2, v3]) rfl ⟨rfl, ?_⟩
  exact ((((((Below.andThen B0.out BQ.out (Nat.le_refl _)).setCell (p := ⟨w.heap.size + 1, 3, none⟩) (by dsimp only; omega) (.int .i64 p3)).setCell (p := ⟨w.heap.size + 1 + 1 + 1, 0, none⟩) (by dsimp only; omega) (.int .i64 f0)).setCell (p := ⟨w.heap.size + 1 + 1 + 1, 1, none⟩) (by dsimp only; omega) (.int .i64 f1)).setCell (p := ⟨w.heap.size + 1 + 1 + 1, 2, none⟩) (by dsimp only; omega) (.int .i64 f2)).setCell (p := ⟨w.heap.size + 1 + 1 + 1, 3, none⟩) (by dsimp only; omega) (.int .i64 p3))
set_option maxRecDepth 100000 in
set_option maxHeartbeats 1000000 in
theorem after_0_s (n p0 p1 p2 p3 f0 f1 f2 f3 : Int) (w : World) :
    Calls Try.prog 54 #[.agg #[.int .i64 n, .int .i64 p0, .int .i64 p1, .int .i64 p2, .int .i64 p3], .agg #[.int .i64 f0, .int .i64 f1, .int .i64 f2, .int .i64 f3], .agg #[.int .i64 0, .int .i64 (-1)]] w fun e w' => e = .returned (aggI (afterF [p0, p1, p2, p3] [f0, f1, f2, f3] 0 (-1))) ∧ Below w.heap.size w w' := by
  obtain ⟨V, hV, rJ, rF, rS, rR, hb, hsz⟩ := after_start w [.int .i64 n, .int .i64 p0, .int .i64 p1, .int .i64 p2, .int .i64 p3] [.int .i64 f0, .int .i64 f1, .int .i64 f2, .int .i64 f3] [.int .i64 0, .int .i64 (-1)] [.int .i64 0, .int .i64 0, .int .i64 0, .int .i64 0]
  have FIN : Hid (aggI (afterF [p0, p1, p2, p3] [f0, f1, f2, f3] 0 (-1)) = .agg #[.int .i64 0, .int .i64 f1, .int .i64 f2, .int .i64 f3]) := Lib.hid (by simp [afterF, aggI, encI])
  rw [FIN.out]
  have HV := Lib.hid hV
  have RJ := Lib.hid rJ
  have RF := Lib.hid rF
  have RR := Lib.hid rR
  have B0 := Lib.hid hb
  have s0 := rS.cell 0
  have s1 := rS.cell 1
  simp only [List.getElem?_cons_zero, List.getElem?_cons_succ] at s0 s1
  have u0 := Kl.cell rS.lt s0
  have u1 := Kl.cell rS.lt s1
  clear hV rJ rF rS rR hb hsz s0 s1
  go_enter Try.func54, Try.ntmps54
  go_wp2_with fail
  rw [← HV.out]
  refine wp_region_below (by kernel_rfl) (by kernel_rfl) ?_
  repeat (go_big_quiet_step (fail))
  refine wpQuiet_nil ?_
  rintro _ ⟨wq, rfl⟩
  have BQ := Lib.hid wq.h
  generalize wq.W = w2 at *
  clear u0 u1
  have rJ := RJ.out.below BQ.out RJ.out.lt
  have rF := RF.out.below BQ.out RF.out.lt
  have rR := RR.out.below BQ.out RR.out.lt
  have RF2 := Lib.hid rF
  have RR2 := Lib.hid rR
  have j1 := rJ.cell 1
  have j2 := rJ.cell 2
  have j3 := rJ.cell 3
  have j4 := rJ.cell 4
  have c0 := rF.cell 0
  have c1 := rF.cell 1
  have c2 := rF.cell 2
  have c3 := rF.cell 3
  have z0 := rR.cell 0
  have z1 := rR.cell 1
  have z2 := rR.cell 2
  have z3 := rR.cell 3
  have k0 := frozen_of_row _ (w.heap.size + 1) 0 _ _ rF
  have k1 := frozen_of_row _ (w.heap.size + 1) 1 _ _ rF
  have k2 := frozen_of_row _ (w.heap.size + 1) 2 _ _ rF
  have k3 := frozen_of_row _ (w.heap.size + 1) 3 _ _ rF
  have l0 := frozen_of_row _ (w.heap.size + 1 + 1 + 1) 0 _ _ rR
  have l1 := frozen_of_row _ (w.heap.size + 1 + 1 + 1) 1 _ _ rR
  have l2 := frozen_of_row _ (w.heap.size + 1 + 1 + 1) 2 _ _ rR
  have l3 := frozen_of_row _ (w.heap.size + 1 + 1 + 1) 3 _ _ rR
  simp only [List.getElem?_cons_zero, List.getElem?_cons_succ] at j1 j2 j3 j4 c0 c1 c2 c3 z0 z1 z2 z3
  clear rJ rF rR
  go_wp2_with fail
  have hr : Row (((((w2.setCell ⟨w.heap.size + 1, 0, none⟩ (.int .i64 0)).setCell ⟨w.heap.size + 1 + 1 + 1, 0, none⟩ (.int .i64 0)).setCell ⟨w.heap.size + 1 + 1 + 1, 1, none⟩ (.int .i64 f1)).setCell ⟨w.heap.size + 1 + 1 + 1, 2, none⟩ (.int .i64 f2)).setCell ⟨w.heap.size + 1 + 1 + 1, 3, none⟩ (.int .i64 f3)) (w.heap.size + 1 + 1 + 1) 77 [.int .i64 0, .int .i64 f1, .int .i64 f2, .int .i64 f3] := by
    simpa using (((((RR2.out.other (0) (.int .i64 0) (g' := w.heap.size + 1) (by omega)).set 0 (.int .i64 0)).set 1 (.int .i64 f1)).set 2 (.int .i64 f2)).set 3 (.int .i64 f3))
  have v0 := hr.cell 0
  have v1 := hr.cell 1
  have v2 := hr.cell 2
  have v3 := hr.cell 3
  simp only [List.getElem?_cons_zero, List.getElem?_cons_succ] at v0 v1 v2 v3
  refine bodyPost_ret (v := .agg #[.int .i64 0, .int .i64 f1, .int .i64 f2, .int .i64 f3]) (by simp [results, Try.results54, go_sem, v0, v1, v2, v3]) rfl ⟨rfl, ?_⟩
  exact ((((((Below.andThen B0.out BQ.out (Nat.le_refl _)).setCell (p := ⟨w.heap.size + 1, 0, none⟩) (by dsimp only; omega) (.int .i64 0)).setCell (p := ⟨w.heap.size + 1 + 1 + 1, 0, none⟩) (by dsimp only; omega) (.int .i64 0)).setCell (p := ⟨w.heap.size + 1 + 1 + 1, 1, none⟩) (by dsimp only; omega) (.int .i64 f1)).setCell (p := ⟨w.heap.size + 1 + 1 + 1, 2, none⟩) (by dsimp only; omega) (.int .i64 f2)).setCell (p := ⟨w.heap.size + 1 + 1 + 1, 3, none⟩) (by dsimp only; omega) (.int .i64 f3))
set_option maxRecDepth 100000 in
set_option maxHeartbeats 1000000 in
theorem after_0_1l (n p0 p1 p2 p3 f0 f1 f2 f3 : Int) (hf : 0 ≤ f0 ∧ f0 ≤ 12) (ht : 0 ≤ f1 ∧ f1 ≤ p1) (hp : p1 ≤ 12) (hmin : f0 ≤ p1 - f1) (w : World) :
    Calls Try.prog 54 #[.agg #[.int .i64 n, .int .i64 p0, .int .i64 p1, .int .i64 p2, .int .i64 p3], .agg #[.int .i64 f0, .int .i64 f1, .int .i64 f2, .int .i64 f3], .agg #[.int .i64 0, .int .i64 1]] w fun e w' => e = .returned (aggI (afterF [p0, p1, p2, p3] [f0, f1, f2, f3] 0 1)) ∧ Below w.heap.size w w' := by
  obtain ⟨V, hV, rJ, rF, rS, rR, hb, hsz⟩ := after_start w [.int .i64 n, .int .i64 p0, .int .i64 p1, .int .i64 p2, .int .i64 p3] [.int .i64 f0, .int .i64 f1, .int .i64 f2, .int .i64 f3] [.int .i64 0, .int .i64 1] [.int .i64 0, .int .i64 0, .int .i64 0, .int .i64 0]
  have e1 : IntKind.i64.wrap (p1 - f1) = p1 - f1 := i64_of _ (by omega) (by omega)
  have e2 : IntKind.i64.wrap (f0 - f0) = f0 - f0 := i64_of _ (by omega) (by omega)
  have e3 : IntKind.i64.wrap (f1 + f0) = f1 + f0 := i64_of _ (by omega) (by omega)
  have hm : min f0 (p1 - f1) = f0 := by omega
  have FIN : Hid (aggI (afterF [p0, p1, p2, p3] [f0, f1, f2, f3] 0 1) = .agg #[.int .i64 0, .int .i64 (f1 + f0), .int .i64 f2, .int .i64 f3]) := Lib.hid (by simp [afterF, aggI, encI, hm])
  rw [FIN.out]
  have HV := Lib.hid hV
  have RJ := Lib.hid rJ
  have RF := Lib.hid rF
  have RR := Lib.hid rR
  have B0 := Lib.hid hb
  have s0 := rS.cell 0
  have s1 := rS.cell 1
  simp only [List.getElem?_cons_zero, List.getElem?_cons_succ] at s0 s1
  have u0 := Kl.cell rS.lt s0
  have u1 := Kl.cell rS.lt s1
  clear hV rJ rF rS rR hb hsz s0 s1
  go_enter Try.func54, Try.ntmps54
  go_wp2_with fail
  rw [← HV.out]
  refine wp_region_below (by kernel_rfl) (by kernel_rfl) ?_
  repeat (go_big_quiet_step (fail))
  refine wpQuiet_nil ?_
  rintro _ ⟨wq, rfl⟩
  have BQ := Lib.hid wq.h
  generalize wq.W = w2 at *
  clear u0 u1
  have q1 := (RF.out.below BQ.out RF.out.lt).cell 0
  have q2 := (RF.out.below BQ.out RF.out.lt).cell 1
  have q3 := (RJ.out.below BQ.out RJ.out.lt).cell 2
  simp only [List.getElem?_cons_zero, List.getElem?_cons_succ] at q1 q2 q3
  have u0 := Kl.cell (RF.out.below BQ.out RF.out.lt).lt q1
  have u1 := Kl.cell (RF.out.below BQ.out RF.out.lt).lt q2
  have u2 := Kl.cell (RJ.out.below BQ.out RJ.out.lt).lt q3
  clear q1 q2 q3
  go_wp2_with fail
  refine wp_region_below (by kernel_rfl) (by kernel_rfl) ?_
  repeat (go_big_quiet_step (fail))
  refine wpQuiet_nil ?_
  rintro _ ⟨wq, rfl⟩
  have BQ := Lib.hid (Below.andThen BQ.out wq.h (by have := BQ.out.size; have := RR.out.lt; omega))
  generalize wq.W = w2 at *
  clear u0 u1 u2
  have rJ := RJ.out.below BQ.out RJ.out.lt
  have rF := RF.out.below BQ.out RF.out.lt
  have rR := RR.out.below BQ.out RR.out.lt
  have RF2 := Lib.hid rF
  have RR2 := Lib.hid rR
  have j1 := rJ.cell 1
  have j2 := rJ.cell 2
  have j3 := rJ.cell 3
  have j4 := rJ.cell 4
  have c0 := rF.cell 0
  have c1 := rF.cell 1
  have c2 := rF.cell 2
  have c3 := rF.cell 3
  have z0 := rR.cell 0
  have z1 := rR.cell 1
  have z2 := rR.cell 2
  have z3 := rR.cell 3
  have k0 := frozen_of_row _ (w.heap.size + 1) 0 _ _ rF
  have k1 := frozen_of_row _ (w.heap.size + 1) 1 _ _ rF
  have k2 := frozen_of_row _ (w.heap.size + 1) 2 _ _ rF
  have k3 := frozen_of_row _ (w.heap.size + 1) 3 _ _ rF
  have l0 := frozen_of_row _ (w.heap.size + 1 + 1 + 1) 0 _ _ rR
  have l1 := frozen_of_row _ (w.heap.size + 1 + 1 + 1) 1 _ _ rR
  have l2 := frozen_of_row _ (w.heap.size + 1 + 1 + 1) 2 _ _ rR
  have l3 := frozen_of_row _ (w.heap.size + 1 + 1 + 1) 3 _ _ rR
  simp only [List.getElem?_cons_zero, List.getElem?_cons_succ] at j1 j2 j3 j4 c0 c1 c2 c3 z0 z1 z2 z3
  clear rJ rF rR
  go_wp2_with fail
  all_goals first | (exfalso; omega) | skip
  have hr : Row ((((((w2.setCell ⟨w.heap.size + 1, 0, none⟩ (.int .i64 0)).setCell ⟨w.heap.size + 1, 1, none⟩ (.int .i64 (f1 + f0))).setCell ⟨w.heap.size + 1 + 1 + 1, 0, none⟩ (.int .i64 0)).setCell ⟨w.heap.size + 1 + 1 + 1, 1, none⟩ (.int .i64 (f1 + f0))).setCell ⟨w.heap.size + 1 + 1 + 1, 2, none⟩ (.int .i64 f2)).setCell ⟨w.heap.size + 1 + 1 + 1, 3, none⟩ (.int .i64 f3)) (w.heap.size + 1 + 1 + 1) 77 [.int .i64 0, .int .i64 (f1 + f0), .int .i64 f2, .int .i64 f3] := by
    simpa using ((((((RR2.out.other (0) (.int .i64 0) (g' := w.heap.size + 1) (by omega)).other (1) (.int .i64 (f1 + f0)) (g' := w.heap.size + 1) (by omega)).set 0 (.int .i64 0)).set 1 (.int .i64 (f1 + f0))).set 2 (.int .i64 f2)).set 3 (.int .i64 f3))
  have v0 := hr.cell 0
  have v1 := hr.cell 1
  have v2 := hr.cell 2
  have v3 := hr.cell 3
  simp only [List.getElem?_cons_zero, List.getElem?_cons_succ] at v0 v1 v2 v3
  refine bodyPost_ret (v := .agg #[.int .i64 0, .int .i64 (f1 + f0), .int .i64 f2, .int .i64 f3]) (by simp [results, Try.results54, go_sem, v0, v1, v2, v3]) rfl ⟨rfl, ?_⟩
  exact (((((((Below.andThen B0.out BQ.out (Nat.le_refl _)).setCell (p := ⟨w.heap.size + 1, 0, none⟩) (by dsimp only; omega) (.int .i64 0)).setCell (p := ⟨w.heap.size + 1, 1, none⟩) (by dsimp only; omega) (.int .i64 (f1 + f0))).setCell (p := ⟨w.heap.size + 1 + 1 + 1, 0, none⟩) (by dsimp only; omega) (.int .i64 0)).setCell (p := ⟨w.heap.size + 1 + 1 + 1, 1, none⟩) (by dsimp only; omega) (.int .i64 (f1 + f0))).setCell (p := ⟨w.heap.size + 1 + 1 + 1, 2, none⟩) (by dsimp only; omega) (.int .i64 f2)).setCell (p := ⟨w.heap.size + 1 + 1 + 1, 3, none⟩) (by dsimp only; omega) (.int .i64 f3))
set_option maxRecDepth 100000 in
set_option maxHeartbeats 1000000 in
theorem after_0_1h (n p0 p1 p2 p3 f0 f1 f2 f3 : Int) (hf : 0 ≤ f0 ∧ f0 ≤ 12) (ht : 0 ≤ f1 ∧ f1 ≤ p1) (hp : p1 ≤ 12) (hmin : p1 - f1 < f0) (w : World) :
    Calls Try.prog 54 #[.agg #[.int .i64 n, .int .i64 p0, .int .i64 p1, .int .i64 p2, .int .i64 p3], .agg #[.int .i64 f0, .int .i64 f1, .int .i64 f2, .int .i64 f3], .agg #[.int .i64 0, .int .i64 1]] w fun e w' => e = .returned (aggI (afterF [p0, p1, p2, p3] [f0, f1, f2, f3] 0 1)) ∧ Below w.heap.size w w' := by
  obtain ⟨V, hV, rJ, rF, rS, rR, hb, hsz⟩ := after_start w [.int .i64 n, .int .i64 p0, .int .i64 p1, .int .i64 p2, .int .i64 p3] [.int .i64 f0, .int .i64 f1, .int .i64 f2, .int .i64 f3] [.int .i64 0, .int .i64 1] [.int .i64 0, .int .i64 0, .int .i64 0, .int .i64 0]
  have e1 : IntKind.i64.wrap (p1 - f1) = p1 - f1 := i64_of _ (by omega) (by omega)
  have e2 : IntKind.i64.wrap (f0 - (p1 - f1)) = f0 - (p1 - f1) := i64_of _ (by omega) (by omega)
  have e3 : IntKind.i64.wrap (f1 + (p1 - f1)) = f1 + (p1 - f1) := i64_of _ (by omega) (by omega)
  have hm : min f0 (p1 - f1) = (p1 - f1) := by omega
  have FIN : Hid (aggI (afterF [p0, p1, p2, p3] [f0, f1, f2, f3] 0 1) = .agg #[.int .i64 (f0 - (p1 - f1)), .int .i64 (f1 + (p1 - f1)), .int .i64 f2, .int .i64 f3]) := Lib.hid (by simp [afterF, aggI, encI, hm])
  rw [FIN.out]
  have HV := Lib.hid hV
  have RJ := Lib.hid rJ
  have RF := Lib.hid rF
  have RR := Lib.hid rR
  have B0 := Lib.hid hb
  have s0 := rS.cell 0
  have s1 := rS.cell 1
  simp only [List.getElem?_cons_zero, List.getElem?_cons_succ] at s0 s1
  have u0 := Kl.cell rS.lt s0
  have u1 := Kl.cell rS.lt s1
  clear hV rJ rF rS rR hb hsz s0 s1
  go_enter Try.func54, Try.ntmps54
  go_wp2_with fail
  rw [← HV.out]
  refine wp_region_below (by kernel_rfl) (by kernel_rfl) ?_
  repeat (go_big_quiet_step (fail))
  refine wpQuiet_nil ?_
  rintro _ ⟨wq, rfl⟩
  have BQ := Lib.hid wq.h
  generalize wq.W = w2 at *
  clear u0 u1
  have q1 := (RF.out.below BQ.out RF.out.lt).cell 0
  have q2 := (RF.out.below BQ.out RF.out.lt).cell 1
  have q3 := (RJ.out.below BQ.out RJ.out.lt).cell 2
  simp only [List.getElem?_cons_zero, List.getElem?_cons_succ] at q1 q2 q3
  have u0 := Kl.cell (RF.out.below BQ.out RF.out.lt).lt q1
  have u1 := Kl.cell (RF.out.below BQ.out RF.out.lt).lt q2
  have u2 := Kl.cell (RJ.out.below BQ.out RJ.out.lt).lt q3
  clear q1 q2 q3
  go_wp2_with fail
  refine wp_region_below (by kernel_rfl) (by kernel_rfl) ?_
  repeat (go_big_quiet_step (fail))
  refine wpQuiet_nil ?_
  rintro _ ⟨wq, rfl⟩
  have BQ := Lib.hid (Below.andThen BQ.out wq.h (by have := BQ.out.size; have := RR.out.lt; omega))
  generalize wq.W = w2 at *
  clear u0 u1 u2
  have rJ := RJ.out.below BQ.out RJ.out.lt
  have rF := RF.out.below BQ.out RF.out.lt
  have rR := RR.out.below BQ.out RR.out.lt
  have RF2 := Lib.hid rF
  have RR2 := Lib.hid rR
  have j1 := rJ.cell 1
  have j2 := rJ.cell 2
  have j3 := rJ.cell 3
  have j4 := rJ.cell 4
  have c0 := rF.cell 0
  have c1 := rF.cell 1
  have c2 := rF.cell 2
  have c3 := rF.cell 3
  have z0 := rR.cell 0
  have z1 := rR.cell 1
  have z2 := rR.cell 2
  have z3 := rR.cell 3
  have k0 := frozen_of_row _ (w.heap.size + 1) 0 _ _ rF
  have k1 := frozen_of_row _ (w.heap.size + 1) 1 _ _ rF
  have k2 := frozen_of_row _ (w.heap.size + 1) 2 _ _ rF
  have k3 := frozen_of_row _ (w.heap.size + 1) 3 _ _ rF
  have l0 := frozen_of_row _ (w.heap.size + 1 + 1 + 1) 0 _ _ rR
  have l1 := frozen_of_row _ (w.heap.size + 1 + 1 + 1) 1 _ _ rR
  have l2 := frozen_of_row _ (w.heap.size + 1 + 1 + 1) 2 _ _ rR
  have l3 := frozen_of_row _ (w.heap.size + 1 + 1 + 1) 3 _ _ rR
  simp only [List.getElem?_cons_zero, List.getElem?_cons_succ] at j1 j2 j3 j4 c0 c1 c2 c3 z0 z1 z2 z3
  clear rJ rF rR
  go_wp2_with fail
  all_goals first | (exfalso; omega) | skip
  have hr : Row ((((((w2.setCell ⟨w.heap.size + 1, 0, none⟩ (.int .i64 (f0 - (p1 - f1)))).setCell ⟨w.heap.size + 1, 1, none⟩ (.int .i64 (f1 + (p1 - f1)))).setCell ⟨w.heap.size + 1 + 1 + 1, 0, none⟩ (.int .i64 (f0 - (p1 - f1)))).setCell ⟨w.heap.size + 1 + 1 + 1, 1, none⟩ (.int .i64 (f1 + (p1 - f1)))).setCell ⟨w.heap.size + 1 + 1 + 1, 2, none⟩ (.int .i64 f2)).setCell ⟨w.heap.size + 1 + 1 + 1, 3, none⟩ (.int .i64 f3)) (w.heap.size + 1 + 1 + 1) 77 [.int .i64 (f0 - (p1 - f1)), .int .i64 (f1 + (p1 - f1)), .int .i64 f2, .int .i64 f3] := by
    simpa using ((((((RR2.out.other (0) (.int .i64 (f0 - (p1 - f1))) (g' := w.heap.size + 1) (by omega)).other (1) (.int .i64 (f1 + (p1 - f1))) (g' := w.heap.size + 1) (by omega)).set 0 (.int .i64 (f0 - (p1 - f1)))).set 1 (.int .i64 (f1 + (p1 - f1)))).set 2 (.int .i64 f2)).set 3 (.int .i64 f3))
  have v0 := hr.cell 0
  have v1 := hr.cell 1
  have v2 := hr.cell 2
  have v3 := hr.cell 3
  simp only [List.getElem?_cons_zero, List.getElem?_cons_succ] at v0 v1 v2 v3
  refine bodyPost_ret (v := .agg #[.int .i64 (f0 - (p1 - f1)), .int .i64 (f1 + (p1 - f1)), .int .i64 f2, .int .i64 f3]) (by simp [results, Try.results54, go_sem, v0, v1, v2, v3]) rfl ⟨rfl, ?_⟩
  exact (((((((Below.andThen B0.out BQ.out (Nat.le_refl _)).setCell (p := ⟨w.heap.size + 1, 0, none⟩) (by dsimp only; omega) (.int .i64 (f0 - (p1 - f1)))).setCell (p := ⟨w.heap.size + 1, 1, none⟩) (by dsimp only; omega) (.int .i64 (f1 + (p1 - f1)))).setCell (p := ⟨w.heap.size + 1 + 1 + 1, 0, none⟩) (by dsimp only; omega) (.int .i64 (f0 - (p1 - f1)))).setCell (p := ⟨w.heap.size + 1 + 1 + 1, 1, none⟩) (by dsimp only; omega) (.int .i64 (f1 + (p1 - f1)))).setCell (p := ⟨w.heap.size + 1 + 1 + 1, 2, none⟩) (by dsimp only; omega) (.int .i64 f2)).setCell (p := ⟨w.heap.size + 1 + 1 + 1, 3, none⟩) (by dsimp only; omega) (.int .i64 f3))
set_option maxRecDepth 100000 in
set_option maxHeartbeats 1000000 in
theorem after_0_2l (n p0 p1 p2 p3 f0 f1 f2 f3 : Int) (hf : 0 ≤ f0 ∧ f0 ≤ 12) (ht : 0 ≤ f2 ∧ f2 ≤ p2) (hp : p2 ≤ 12) (hmin : f0 ≤ p2 - f2) (w : World) :
    Calls Try.prog 54 #[.agg #[.int .i64 n, .int .i64 p0, .int .i64 p1, .int .i64 p2, .int .i64 p3], .agg #[.int .i64 f0, .int .i64 f1, .int .i64 f2, .int .i64 f3], .agg #[.int .i64 0, .int .i64 2]] w fun e w' => e = .returned (aggI (afterF [p0, p1, p2, p3] [f0, f1, f2, f3] 0 2)) ∧ Below w.heap.size w w' := by
  obtain ⟨V, hV, rJ, rF, rS, rR, hb, hsz⟩ := after_start w [.int .i64 n, .int .i64 p0, .int .i64 p1, .int .i64 p2, .int .i64 p3] [.int .i64 f0, .int .i64 f1, .int .i64 f2, .int .i64 f3] [.int .i64 0, .int .i64 2] [.int .i64 0, .int .i64 0, .int .i64 0, .int .i64 0]
  have e1 : IntKind.i64.wrap (p2 - f2) = p2 - f2 := i64_of _ (by omega) (by omega)
  have e2 : IntKind.i64.wrap (f0 - f0) = f0 - f0 := i64_of _ (by omega) (by omega)
  have e3 : IntKind.i64.wrap (f2 + f0) = f2 + f0 := i64_of _ (by omega) (by omega)
  have hm : min f0 (p2 - f2) = f0 := by omega
  have FIN : Hid (aggI (afterF [p0, p1, p2, p3] [f0, f1, f2, f3] 0 2) = .agg #[.int .i64 0, .int .i64 f1, .int .i64 (f2 + f0), .int .i64 f3]) := Lib.hid (by simp [afterF, aggI, encI, hm])
  rw [FIN.out]
  have HV := Lib.hid hV
  have RJ := Lib.hid rJ
  have RF := Lib.hid rF
  have RR := Lib.hid rR
  have B0 := Lib.hid hb
  have s0 := rS.cell 0
  have s1 := rS.cell 1
  simp only [List.getElem?_cons_zero, List.getElem?_cons_succ] at s0 s1
  have u0 := Kl.cell rS.lt s0
  have u1 := Kl.cell rS.lt s1
  clear hV rJ rF rS rR hb hsz s0 s1
  go_enter Try.func54, Try.ntmps54
  go_wp2_with fail
  rw [← HV.out]
  refine wp_region_below (by kernel_rfl) (by kernel_rfl) ?_
  repeat (go_big_quiet_step (fail))
  refine wpQuiet_nil ?_
  rintro _ ⟨wq, rfl⟩
  have BQ := Lib.hid wq.h
  generalize wq.W = w2 at *
  clear u0 u1
  have q1 := (RF.out.below BQ.out RF.out.lt).cell 0
  have q2 := (RF.out.below BQ.out RF.out.lt).cell 2
  have q3 := (RJ.out.below BQ.out RJ.out.lt).cell 3
  simp only [List.getElem?_cons_zero, List.getElem?_cons_succ] at q1 q2 q3
  have u0 := Kl.cell (RF.out.below BQ.out RF.out.lt).lt q1
  have u1 := Kl.cell (RF.out.below BQ.out RF.out.lt).lt q2
  have u2 := Kl.cell (RJ.out.below BQ.out RJ.out.lt).lt q3
  clear q1 q2 q3
  go_wp2_with fail
  refine wp_region_below (by kernel_rfl) (by kernel_rfl) ?_
  repeat (go_big_quiet_step (fail))
  refine wpQuiet_nil ?_
  rintro _ ⟨wq, rfl⟩
  have BQ := Lib.hid (Below.andThen BQ.out wq.h (by have := BQ.out.size; have := RR.out.lt; omega))
  generalize wq.W = w2 at *
  clear u0 u1 u2
  have rJ := RJ.out.below BQ.out RJ.out.lt
  have rF := RF.out.below BQ.out RF.out.lt
  have rR := RR.out.below BQ.out RR.out.lt
  have RF2 := Lib.hid rF
  have RR2 := Lib.hid rR
  have j1 := rJ.cell 1
  have j2 := rJ.cell 2
  have j3 := rJ.cell 3
  have j4 := rJ.cell 4
  have c0 := rF.cell 0
  have c1 := rF.cell 1
  have c2 := rF.cell 2
  have c3 := rF.cell 3
  have z0 := rR.cell 0
  have z1 := rR.cell 1
  have z2 := rR.cell 2
  have z3 := rR.cell 3
  have k0 := frozen_of_row _ (w.heap.size + 1) 0 _ _ rF
  have k1 := frozen_of_row _ (w.heap.size + 1) 1 _ _ rF
  have k2 := frozen_of_row _ (w.heap.size + 1) 2 _ _ rF
  have k3 := frozen_of_row _ (w.heap.size + 1) 3 _ _ rF
  have l0 := frozen_of_row _ (w.heap.size + 1 + 1 + 1) 0 _ _ rR
  have l1 := frozen_of_row _ (w.heap.size + 1 + 1 + 1) 1 _ _ rR
  have l2 := frozen_of_row _ (w.heap.size + 1 + 1 + 1) 2 _ _ rR
  have l3 := frozen_of_row _ (w.heap.size + 1 + 1 + 1) 3 _ _ rR
  simp only [List.getElem?_cons_zero, List.getElem?_cons_succ] at j1 j2 j3 j4 c0 c1 c2 c3 z0 z1 z2 z3
  clear rJ rF rR
  go_wp2_with fail
  all_goals first | (exfalso; omega) | skip
  have hr : Row ((((((w2.setCell ⟨w.heap.size + 1, 0, none⟩ (.int .i64 0)).setCell ⟨w.heap.size + 1, 2, none⟩ (.int .i64 (f2 + f0))).setCell ⟨w.heap.size + 1 + 1 + 1, 0, none⟩ (.int .i64 0)).setCell ⟨w.heap.size + 1 + 1 + 1, 1, none⟩ (.int .i64 f1)).setCell ⟨w.heap.size + 1 + 1 + 1, 2, none⟩ (.int .i64 (f2 + f0))).setCell ⟨w.heap.size + 1 + 1 + 1, 3, none⟩ (.int .i64 f3)) (w.heap.size + 1 + 1 + 1) 77 [.int .i64 0, .int .i64 f1, .int .i64 (f2 + f0), .int .i64 f3] := by
    simpa using ((((((RR2.out.other (0) (.int .i64 0) (g' := w.heap.size + 1) (by omega)).other (2) (.int .i64 (f2 + f0)) (g' := w.heap.size + 1) (by omega)).set 0 (.int .i64 0)).set 1 (.int .i64 f1)).set 2 (.int .i64 (f2 + f0))).set 3 (.int .i64 f3))
  have v0 := hr.cell 0
  have v1 := hr.cell 1
  have v2 := hr.cell 2
  have v3 := hr.cell 3
  simp only [List.getElem?_cons_zero, List.getElem?_cons_succ] at v0 v1 v2 v3
  refine bodyPost_ret (v := .agg #[.int .i64 0, .int .i64 f1, .int .i64 (f2 + f0), .int .i64 f3]) (by simp [results, Try.results54, go_sem, v0, v1, v2, v3]) rfl ⟨rfl, ?_⟩
  exact (((((((Below.andThen B0.out BQ.out (Nat.le_refl _)).setCell (p := ⟨w.heap.size + 1, 0, none⟩) (by dsimp only; omega) (.int .i64 0)).setCell (p := ⟨w.heap.size + 1, 2, none⟩) (by dsimp only; omega) (.int .i64 (f2 + f0))).setCell (p := ⟨w.heap.size + 1 + 1 + 1, 0, none⟩) (by dsimp only; omega) (.int .i64 0)).setCell (p := ⟨w.heap.size + 1 + 1 + 1, 1, none⟩) (by dsimp only; omega) (.int .i64 f1)).setCell (p := ⟨w.heap.size + 1 + 1 + 1, 2, none⟩) (by dsimp only; omega) (.int .i64 (f2 + f0))).setCell (p := ⟨w.heap.size + 1 + 1 + 1, 3, none⟩) (by dsimp only; omega) (.int .i64 f3))
set_option maxRecDepth 100000 in
set_option maxHeartbeats 1000000 in
theorem after_0_2h (n p0 p1 p2 p3 f0 f1 f2 f3 : Int) (hf : 0 ≤ f0 ∧ f0 ≤ 12) (ht : 0 ≤ f2 ∧ f2 ≤ p2) (hp : p2 ≤ 12) (hmin : p2 - f2 < f0) (w : World) :
    Calls Try.prog 54 #[.agg #[.int .i64 n, .int .i64 p0, .int .i64 p1, .int .i64 p2, .int .i64 p3], .agg #[.int .i64 f0, .int .i64 f1, .int .i64 f2, .int .i64 f3], .agg #[.int .i64 0, .int .i64 2]] w fun e w' => e = .returned (aggI (afterF [p0, p1, p2, p3] [f0, f1, f2, f3] 0 2)) ∧ Below w.heap.size w w' := by
  obtain ⟨V, hV, rJ, rF, rS, rR, hb, hsz⟩ := after_start w [.int .i64 n, .int .i64 p0, .int .i64 p1, .int .i64 p2, .int .i64 p3] [.int .i64 f0, .int .i64 f1, .int .i64 f2, .int .i64 f3] [.int .i64 0, .int .i64 2] [.int .i64 0, .int .i64 0, .int .i64 0, .int .i64 0]
  have e1 : IntKind.i64.wrap (p2 - f2) = p2 - f2 := i64_of _ (by omega) (by omega)
  have e2 : IntKind.i64.wrap (f0 - (p2 - f2)) = f0 - (p2 - f2) := i64_of _ (by omega) (by omega)
  have e3 : IntKind.i64.wrap (f2 + (p2 - f2)) = f2 + (p2 - f2) := i64_of _ (by omega) (by omega)
  have hm : min f0 (p2 - f2) = (p2 - f2) := by omega
  have FIN : Hid (aggI (afterF [p0, p1, p2, p3] [f0, f1, f2, f3] 0 2) = .agg #[.int .i64 (f0 - (p2 - f2)), .int .i64 f1, .int .i64 (f2 + (p2 - f2)), .int .i64 f3]) := Lib.hid (by simp [afterF, aggI, encI, hm])
  rw [FIN.out]
  have HV := Lib.hid hV
  have RJ := Lib.hid rJ
  have RF := Lib.hid rF
  have RR := Lib.hid rR
  have B0 := Lib.hid hb
  have s0 := rS.cell 0
  have s1 := rS.cell 1
  simp only [List.getElem?_cons_zero, List.getElem?_cons_succ] at s0 s1
  have u0 := Kl.cell rS.lt s0
  have u1 := Kl.cell rS.lt s1
  clear hV rJ rF rS rR hb hsz s0 s1
  go_enter Try.func54, Try.ntmps54
  go_wp2_with fail
  rw [← HV.out]
  refine wp_region_below (by kernel_rfl) (by kernel_rfl) ?_
  repeat (go_big_quiet_step (fail))
  refine wpQuiet_nil ?_
  rintro _ ⟨wq, rfl⟩
  have BQ := Lib.hid wq.h
  generalize wq.W = w2 at *
  clear u0 u1
  have q1 := (RF.out.below BQ.out RF.out.lt).cell 0
  have q2 := (RF.out.below BQ.out RF.out.lt).cell 2
  have q3 := (RJ.out.below BQ.out RJ.out.lt).cell 3
  simp only [List.getElem?_cons_zero, List.getElem?_cons_succ] at q1 q2 q3
  have u0 := Kl.cell (RF.out.below BQ.out RF.out.lt).lt q1
  have u1 := Kl.cell (RF.out.below BQ.out RF.out.lt).lt q2
  have u2 := Kl.cell (RJ.out.below BQ.out RJ.out.lt).lt q3
  clear q1 q2 q3
  go_wp2_with fail
  refine wp_region_below (by kernel_rfl) (by kernel_rfl) ?_
  repeat (go_big_quiet_step (fail))
  refine wpQuiet_nil ?_
  rintro _ ⟨wq, rfl⟩
  have BQ := Lib.hid (Below.andThen BQ.out wq.h (by have := BQ.out.size; have := RR.out.lt; omega))
  generalize wq.W = w2 at *
  clear u0 u1 u2
  have rJ := RJ.out.below BQ.out RJ.out.lt
  have rF := RF.out.below BQ.out RF.out.lt
  have rR := RR.out.below BQ.out RR.out.lt
  have RF2 := Lib.hid rF
  have RR2 := Lib.hid rR
  have j1 := rJ.cell 1
  have j2 := rJ.cell 2
  have j3 := rJ.cell 3
  have j4 := rJ.cell 4
  have c0 := rF.cell 0
  have c1 := rF.cell 1
  have c2 := rF.cell 2
  have c3 := rF.cell 3
  have z0 := rR.cell 0
  have z1 := rR.cell 1
  have z2 := rR.cell 2
  have z3 := rR.cell 3
  have k0 := frozen_of_row _ (w.heap.size + 1) 0 _ _ rF
  have k1 := frozen_of_row _ (w.heap.size + 1) 1 _ _ rF
  have k2 := frozen_of_row _ (w.heap.size + 1) 2 _ _ rF
  have k3 := frozen_of_row _ (w.heap.size + 1) 3 _ _ rF
  have l0 := frozen_of_row _ (w.heap.size + 1 + 1 + 1) 0 _ _ rR
  have l1 := frozen_of_row _ (w.heap.size + 1 + 1 + 1) 1 _ _ rR
  have l2 := frozen_of_row _ (w.heap.size + 1 + 1 + 1) 2 _ _ rR
  have l3 := frozen_of_row _ (w.heap.size + 1 + 1 + 1) 3 _ _ rR
  simp only [List.getElem?_cons_zero, List.getElem?_cons_succ] at j1 j2 j3 j4 c0 c1 c2 c3 z0 z1 z2 z3
  clear rJ rF rR
  go_wp2_with fail
  all_goals first | (exfalso; omega) | skip
  have hr : Row ((((((w2.setCell ⟨w.heap.size + 1, 0, none⟩ (.int .i64 (f0 - (p2 - f2)))).setCell ⟨w.heap.size + 1, 2, none⟩ (.int .i64 (f2 + (p2 - f2)))).setCell ⟨w.heap.size + 1 + 1 + 1, 0, none⟩ (.int .i64 (f0 - (p2 - f2)))).setCell ⟨w.heap.size + 1 + 1 + 1, 1, none⟩ (.int .i64 f1)).setCell ⟨w.heap.size + 1 + 1 + 1, 2, none⟩ (.int .i64 (f2 + (p2 - f2)))).setCell ⟨w.heap.size + 1 + 1 + 1, 3, none⟩ (.int .i64 f3)) (w.heap.size + 1 + 1 + 1) 77 [.int .i64 (f0 - (p2 - f2)), .int .i64 f1, .int .i64 (f2 + (p2 - f2)), .int .i64 f3] := by
    simpa using ((((((RR2.out.other (0) (.int .i64 (f0 - (p2 - f2))) (g' := w.heap.size + 1) (by omega)).other (2) (.int .i64 (f2 + (p2 - f2))) (g' := w.heap.size + 1) (by omega)).set 0 (.int .i64 (f0 - (p2 - f2)))).set 1 (.int .i64 f1)).set 2 (.int .i64 (f2 + (p2 - f2)))).set 3 (.int .i64 f3))
  have v0 := hr.cell 0
  have v1 := hr.cell 1
  have v2 := hr.cell 2
  have v3 := hr.cell 3
  simp only [List.getElem?_cons_zero, List.getElem?_cons_succ] at v0 v1 v2 v3
  refine bodyPost_ret (v := .agg #[.int .i64 (f0 - (p2 - f2)), .int .i64 f1, .int .i64 (f2 + (p2 - f2)), .int .i64 f3]) (by simp [results, Try.results54, go_sem, v0, v1, v2, v3]) rfl ⟨rfl, ?_⟩
  exact (((((((Below.andThen B0.out BQ.out (Nat.le_refl _)).setCell (p := ⟨w.heap.size + 1, 0, none⟩) (by dsimp only; omega) (.int .i64 (f0 - (p2 - f2)))).setCell (p := ⟨w.heap.size + 1, 2, none⟩) (by dsimp only; omega) (.int .i64 (f2 + (p2 - f2)))).setCell (p := ⟨w.heap.size + 1 + 1 + 1, 0, none⟩) (by dsimp only; omega) (.int .i64 (f0 - (p2 - f2)))).setCell (p := ⟨w.heap.size + 1 + 1 + 1, 1, none⟩) (by dsimp only; omega) (.int .i64 f1)).setCell (p := ⟨w.heap.size + 1 + 1 + 1, 2, none⟩) (by dsimp only; omega) (.int .i64 (f2 + (p2 - f2)))).setCell (p := ⟨w.heap.size + 1 + 1 + 1, 3, none⟩) (by dsimp only; omega) (.int .i64 f3))
set_option maxRecDepth 100000 in
set_option maxHeartbeats 1000000 in
theorem after_0_3l (n p0 p1 p2 p3 f0 f1 f2 f3 : Int) (hf : 0 ≤ f0 ∧ f0 ≤ 12) (ht : 0 ≤ f3 ∧ f3 ≤ p3) (hp : p3 ≤ 12) (hmin : f0 ≤ p3 - f3) (w : World) :
    Calls Try.prog 54 #[.agg #[.int .i64 n, .int .i64 p0, .int .i64 p1, .int .i64 p2, .int .i64 p3], .agg #[.int .i64 f0, .int .i64 f1, .int .i64 f2, .int .i64 f3], .agg #[.int .i64 0, .int .i64 3]] w fun e w' => e = .returned (aggI (afterF [p0, p1, p2, p3] [f0, f1, f2, f3] 0 3)) ∧ Below w.heap.size w w' := by
  obtain ⟨V, hV, rJ, rF, rS, rR, hb, hsz⟩ := after_start w [.int .i64 n, .int .i64 p0, .int .i64 p1, .int .i64 p2, .int .i64 p3] [.int .i64 f0, .int .i64 f1, .int .i64 f2, .int .i64 f3] [.int .i64 0, .int .i64 3] [.int .i64 0, .int .i64 0, .int .i64 0, .int .i64 0]
  have e1 : IntKind.i64.wrap (p3 - f3) = p3 - f3 := i64_of _ (by omega) (by omega)
  have e2 : IntKind.i64.wrap (f0 - f0) = f0 - f0 := i64_of _ (by omega) (by omega)
  have e3 : IntKind.i64.wrap (f3 + f0) = f3 + f0 := i64_of _ (by omega) (by omega)
  have hm : min f0 (p3 - f3) = f0 := by omega
  have FIN : Hid (aggI (afterF [p0, p1, p2, p3] [f0, f1, f2, f3] 0 3) = .agg #[.int .i64 0, .int .i64 f1, .int .i64 f2, .int .i64 (f3 + f0)]) := Lib.hid (by simp [afterF, aggI, encI, hm])
  rw [FIN.out]
  have HV := Lib.hid hV
  have RJ := Lib.hid rJ
  have RF := Lib.hid rF
  have RR := Lib.hid rR
  have B0 := Lib.hid hb
  have s0 := rS.cell 0
  have s1 := rS.cell 1
  simp only [List.getElem?_cons_zero, List.getElem?_cons_succ] at s0 s1
  have u0 := Kl.cell rS.lt s0
  have u1 := Kl.cell rS.lt s1
  clear hV rJ rF rS rR hb hsz s0 s1
  go_enter Try.func54, Try.ntmps54
  go_wp2_with fail
  rw [← HV.out]
  refine wp_region_below (by kernel_rfl) (by kernel_rfl) ?_
  repeat (go_big_quiet_step (fail))
  refine wpQuiet_nil ?_
  rintro _ ⟨wq, rfl⟩
  have BQ := Lib.hid wq.h
  generalize wq.W = w2 at *
  clear u0 u1
  have q1 := (RF.out.below BQ.out RF.out.lt).cell 0
  have q2 := (RF.out.below BQ.out RF.out.lt).cell 3
  have q3 := (RJ.out.below BQ.out RJ.out.lt).cell 4
  simp only [List.getElem?_cons_zero, List.getElem?_cons_succ] at q1 q2 q3
  have u0 := Kl.cell (RF.out.below BQ.out RF.out.lt).lt q1
  have u1 := Kl.cell (RF.out.below BQ.out RF.out.lt).lt q2
  have u2 := Kl.cell (RJ.out.below BQ.out RJ.out.lt).lt q3
  clear q1 q2 q3
  go_wp2_with fail
  refine wp_region_below (by kernel_rfl) (by kernel_rfl) ?_
  repeat (go_big_quiet_step (fail))
  refine wpQuiet_nil ?_
  rintro _ ⟨wq, rfl⟩
  have BQ := Lib.hid (Below.andThen BQ.out wq.h (by have := BQ.out.size; have := RR.out.lt; omega))
  generalize wq.W = w2 at *
  clear u0 u1 u2
  have rJ := RJ.out.below BQ.out RJ.out.lt
  have rF := RF.out.below BQ.out RF.out.lt
  have rR := RR.out.below BQ.out RR.out.lt
  have RF2 := Lib.hid rF
  have RR2 := Lib.hid rR
  have j1 := rJ.cell 1
  have j2 := rJ.cell 2
  have j3 := rJ.cell 3
  have j4 := rJ.cell 4
  have c0 := rF.cell 0
  have c1 := rF.cell 1
  have c2 := rF.cell 2
  have c3 := rF.cell 3
  have z0 := rR.cell 0
  have z1 := rR.cell 1
  have z2 := rR.cell 2
  have z3 := rR.cell 3
  have k0 := frozen_of_row _ (w.heap.size + 1) 0 _ _ rF
  have k1 := frozen_of_row _ (w.heap.size + 1) 1 _ _ rF
  have k2 := frozen_of_row _ (w.heap.size + 1) 2 _ _ rF
  have k3 := frozen_of_row _ (w.heap.size + 1) 3 _ _ rF
  have l0 := frozen_of_row _ (w.heap.size + 1 + 1 + 1) 0 _ _ rR
  have l1 := frozen_of_row _ (w.heap.size + 1 + 1 + 1) 1 _ _ rR
  have l2 := frozen_of_row _ (w.heap.size + 1 + 1 + 1) 2 _ _ rR
  have l3 := frozen_of_row _ (w.heap.size + 1 + 1 + 1) 3 _ _ rR
  simp only [List.getElem?_cons_zero, List.getElem?_cons_succ] at j1 j2 j3 j4 c0 c1 c2 c3 z0 z1 z2 z3
  clear rJ rF rR
  go_wp2_with fail
  all_goals first | (exfalso; omega) | skip
  have hr : Row ((((((w2.setCell ⟨w.heap.size + 1, 0, none⟩ (.int .i64 0)).setCell ⟨w.heap.size + 1, 3, none⟩ (.int .i64 (f3 + f0))).setCell ⟨w.heap.size + 1 + 1 + 1, 0, none⟩ (.int .i64 0)).setCell ⟨w.heap.size + 1 + 1 + 1, 1, none⟩ (.int .i64 f1)).setCell ⟨w.heap.size + 1 + 1 + 1, 2, none⟩ (.int .i64 f2)).setCell ⟨w.heap.size + 1 + 1 + 1, 3, none⟩ (.int .i64 (f3 + f0))) (w.heap.size + 1 + 1 + 1) 77 [.int .i64 0, .int .i64 f1, .int .i64 f2, .int .i64 (f3 + f0)] := by
    simpa using ((((((RR2.out.other (0) (.int .i64 0) (g' := w.heap.size + 1) (by omega)).other (3) (.int .i64 (f3 + f0)) (g' := w.heap.size + 1) (by omega)).set 0 (.int .i64 0)).set 1 (.int .i64 f1)).set 2 (.int .i64 f2)).set 3 (.int .i64 (f3 + f0)))
  have v0 := hr.cell 0
  have v1 := hr.cell 1
  have v2 := hr.cell 2
  have v3 := hr.cell 3
  simp only [List.getElem?_cons_zero, List.getElem?_cons_succ] at v0 v1 v2 v3
  refine bodyPost_ret (v := .agg #[.int .i64 0, .int .i64 f1, .int .i64 f2, .int .i64 (f3 + f0)]) (by simp [results, Try.results54, go_sem, v0, v1, v2, v3]) rfl ⟨rfl, ?_⟩
  exact (((((((Below.andThen B0.out BQ.out (Nat.le_refl _)).setCell (p := ⟨w.heap.size + 1, 0, none⟩) (by dsimp only; omega) (.int .i64 0)).setCell (p := ⟨w.heap.size + 1, 3, none⟩) (by dsimp only; omega) (.int .i64 (f3 + f0))).setCell (p := ⟨w.heap.size + 1 + 1 + 1, 0, none⟩) (by dsimp only; omega) (.int .i64 0)).setCell (p := ⟨w.heap.size + 1 + 1 + 1, 1, none⟩) (by dsimp only; omega) (.int .i64 f1)).setCell (p := ⟨w.heap.size + 1 + 1 + 1, 2, none⟩) (by dsimp only; omega) (.int .i64 f2)).setCell (p := ⟨w.heap.size + 1 + 1 + 1, 3, none⟩) (by dsimp only; omega) (.int .i64 (f3 + f0)))
set_option maxRecDepth 100000 in
set_option maxHeartbeats 1000000 in
theorem after_0_3h (n p0 p1 p2 p3 f0 f1 f2 f3 : Int) (hf : 0 ≤ f0 ∧ f0 ≤ 12) (ht : 0 ≤ f3 ∧ f3 ≤ p3) (hp : p3 ≤ 12) (hmin : p3 - f3 < f0) (w : World) :
    Calls Try.prog 54 #[.agg #[.int .i64 n, .int .i64 p0, .int .i64 p1, .int .i64 p2, .int .i64 p3], .agg #[.int .i64 f0, .int .i64 f1, .int .i64 f2, .int .i64 f3], .agg #[.int .i64 0, .int .i64 3]] w fun e w' => e = .returned (aggI (afterF [p0, p1, p2, p3] [f0, f1, f2, f3] 0 3)) ∧ Below w.heap.size w w' := by
  obtain ⟨V, hV, rJ, rF, rS, rR, hb, hsz⟩ := after_start w [.int .i64 n, .int .i64 p0, .int .i64 p1, .int .i64 p2, .int .i64 p3] [.int .i64 f0, .int .i64 f1, .int .i64 f2, .int .i64 f3] [.int .i64 0, .int .i64 3] [.int .i64 0, .int .i64 0, .int .i64 0, .int .i64 0]
  have e1 : IntKind.i64.wrap (p3 - f3) = p3 - f3 := i64_of _ (by omega) (by omega)
  have e2 : IntKind.i64.wrap (f0 - (p3 - f3)) = f0 - (p3 - f3) := i64_of _ (by omega) (by omega)
  have e3 : IntKind.i64.wrap (f3 + (p3 - f3)) = f3 + (p3 - f3) := i64_of _ (by omega) (by omega)
  have hm : min f0 (p3 - f3) = (p3 - f3) := by omega
  have FIN : Hid (aggI (afterF [p0, p1, p2, p3] [f0, f1, f2, f3] 0 3) = .agg #[.int .i64 (f0 - (p3 - f3)), .int .i64 f1, .int .i64 f2, .int .i64 (f3 + (p3 - f3))]) := Lib.hid (by simp [afterF, aggI, encI, hm])
  rw [FIN.out]
  have HV := Lib.hid hV
  have RJ := Lib.hid rJ
  have RF := Lib.hid rF
  have RR := Lib.hid rR
  have B0 := Lib.hid hb
  have s0 := rS.cell 0
  have s1 := rS.cell 1
  simp only [List.getElem?_cons_zero, List.getElem?_cons_succ] at s0 s1
  have u0 := Kl.cell rS.lt s0
  have u1 := Kl.cell rS.lt s1
  clear hV rJ rF rS rR hb hsz s0 s1
  go_enter Try.func54, Try.ntmps54
  go_wp2_with fail
  rw [← HV.out]
  refine wp_region_below (by kernel_rfl) (by kernel_rfl) ?_
  repeat (go_big_quiet_step (fail))
  refine wpQuiet_nil ?_
  rintro _ ⟨wq, rfl⟩
  have BQ := Lib.hid wq.h
  generalize wq.W = w2 at *
  clear u0 u1
  have q1 := (RF.out.below BQ.out RF.out.lt).cell 0
  have q2 := (RF.out.below BQ.out RF.out.lt).cell 3
  have q3 := (RJ.out.below BQ.out RJ.out.lt).cell 4
  simp only [List.getElem?_cons_zero, List.getElem?_cons_succ] at q1 q2 q3
  have u0 := Kl.cell (RF.out.below BQ.out RF.out.lt).lt q1
  have u1 := Kl.cell (RF.out.below BQ.out RF.out.lt).lt q2
  have u2 := Kl.cell (RJ.out.below BQ.out RJ.out.lt).lt q3
  clear q1 q2 q3
  go_wp2_with fail
  refine wp_region_below (by kernel_rfl) (by kernel_rfl) ?_
  repeat (go_big_quiet_step (fail))
  refine wpQuiet_nil ?_
  rintro _ ⟨wq, rfl⟩
  have BQ := Lib.hid (Below.andThen BQ.out wq.h (by have := BQ.out.size; have := RR.out.lt; omega))
  generalize wq.W = w2 at *
  clear u0 u1 u2
  have rJ := RJ.out.below BQ.out RJ.out.lt
  have rF := RF.out.below BQ.out RF.out.lt
  have rR := RR.out.below BQ.out RR.out.lt
  have RF2 := Lib.hid rF
  have RR2 := Lib.hid rR
  have j1 := rJ.cell 1
  have j2 := rJ.cell 2
  have j3 := rJ.cell 3
  have j4 := rJ.cell 4
  have c0 := rF.cell 0
  have c1 := rF.cell 1
  have c2 := rF.cell 2
  have c3 := rF.cell 3
  have z0 := rR.cell 0
  have z1 := rR.cell 1
  have z2 := rR.cell 2
  have z3 := rR.cell 3
  have k0 := frozen_of_row _ (w.heap.size + 1) 0 _ _ rF
  have k1 := frozen_of_row _ (w.heap.size + 1) 1 _ _ rF
  have k2 := frozen_of_row _ (w.heap.size + 1) 2 _ _ rF
  have k3 := frozen_of_row _ (w.heap.size + 1) 3 _ _ rF
  have l0 := frozen_of_row _ (w.heap.size + 1 + 1 + 1) 0 _ _ rR
  have l1 := frozen_of_row _ (w.heap.size + 1 + 1 + 1) 1 _ _ rR
  have l2 := frozen_of_row _ (w.heap.size + 1 + 1 + 1) 2 _ _ rR
  have l3 := frozen_of_row _ (w.heap.size + 1 + 1 + 1) 3 _ _ rR
  simp only [List.getElem?_cons_zero, List.getElem?_cons_succ] at j1 j2 j3 j4 c0 c1 c2 c3 z0 z1 z2 z3
  clear rJ rF rR
  go_wp2_with fail
  all_goals first | (exfalso; omega) | skip
  have hr : Row ((((((w2.setCell ⟨w.heap.size + 1, 0, none⟩ (.int .i64 (f0 - (p3 - f3)))).setCell ⟨w.heap.size + 1, 3, none⟩ (.int .i64 (f3 + (p3 - f3)))).setCell ⟨w.heap.size + 1 + 1 + 1, 0, none⟩ (.int .i64 (f0 - (p3 - f3)))).setCell ⟨w.heap.size + 1 + 1 + 1, 1, none⟩ (.int .i64 f1)).setCell ⟨w.heap.size + 1 + 1 + 1, 2, none⟩ (.int .i64 f2)).setCell ⟨w.heap.size + 1 + 1 + 1, 3, none⟩ (.int .i64 (f3 + (p3 - f3)))) (w.heap.size + 1 + 1 + 1) 77 [.int .i64 (f0 - (p3 - f3)), .int .i64 f1, .int .i64 f2, .int .i64 (f3 + (p3 - f3))] := by
    simpa using ((((((RR2.out.other (0) (.int .i64 (f0 - (p3 - f3))) (g' := w.heap.size + 1) (by omega)).other (3) (.int .i64 (f3 + (p3 - f3))) (g' := w.heap.size + 1) (by omega)).set 0 (.int .i64 (f0 - (p3 - f3)))).set 1 (.int .i64 f1)).set 2 (.int .i64 f2)).set 3 (.int .i64 (f3 + (p3 - f3))))
  have v0 := hr.cell 0
  have v1 := hr.cell 1
  have v2 := hr.cell 2
  have v3 := hr.cell 3
  simp only [List.getElem?_cons_zero, List.getElem?_cons_succ] at v0 v1 v2 v3
  refine bodyPost_ret (v := .agg #[.int .i64 (f0 - (p3 - f3)), .int .i64 f1, .int .i64 f2, .int .i64 (f3 + (p3 - f3))]) (by simp [results, Try.results54, go_sem, v0, v1, v2, v3]) rfl ⟨rfl, ?_⟩
  exact (((((((Below.andThen B0.out BQ.out (Nat.le_refl _)).setCell (p := ⟨w.heap.size + 1, 0, none⟩) (by dsimp only; omega) (.int .i64 (f0 - (p3 - f3)))).setCell (p := ⟨w.heap.size + 1, 3, none⟩) (by dsimp only; omega) (.int .i64 (f3 + (p3 - f3)))).setCell (p := ⟨w.heap.size + 1 + 1 + 1, 0, none⟩) (by dsimp only; omega) (.int .i64 (f0 - (p3 - f3)))).setCell (p := ⟨w.heap.size + 1 + 1 + 1, 1, none⟩) (by dsimp only; omega) (.int .i64 f1)).setCell (p := ⟨w.heap.size + 1 + 1 + 1, 2, none⟩) (by dsimp only; omega) (.int .i64 f2)).setCell (p := ⟨w.heap.size + 1 + 1 + 1, 3, none⟩) (by dsimp only; omega) (.int .i64 (f3 + (p3 - f3))))
set_option maxRecDepth 100000 in
set_option maxHeartbeats 1000000 in
theorem after_1_s (n p0 p1 p2 p3 f0 f1 f2 f3 : Int) (w : World) :
    Calls Try.prog 54 #[.agg #[.int .i64 n, .int .i64 p0, .int .i64 p1, .int .i64 p2, .int .i64 p3], .agg #[.int .i64 f0, .int .i64 f1, .int .i64 f2, .int .i64 f3], .agg #[.int .i64 1, .int .i64 (-1)]] w fun e w' => e = .returned (aggI (afterF [p0, p1, p2, p3] [f0, f1, f2, f3] 1 (-1))) ∧ Below w.heap.size w w' := by
  obtain ⟨V, hV, rJ, rF, rS, rR, hb, hsz⟩ := after_start w [.int .i64 n, .int .i64 p0, .int .i64 p1, .int .i64 p2, .int .i64 p3] [.int .i64 f0, .int .i64 f1, .int .i64 f2, .int .i64 f3] [.int .i64 1, .int .i64 (-1)] [.int .i64 0, .int .i64 0, .int .i64 0, .int .i64 0]
  have FIN : Hid (aggI (afterF [p0, p1, p2, p3] [f0, f1, f2, f3] 1 (-1)) = .agg #[.int .i64 f0, .int .i64 0, .int .i64 f2, .int .i64 f3]) := Lib.hid (by simp [afterF, aggI, encI])
  rw [FIN.out]
  have HV := Lib.hid hV
  have RJ := Lib.hid rJ
  have RF := Lib.hid rF
  have RR := Lib.hid rR
  have B0 := Lib.hid hb
  have s0 := rS.cell 0
  have s1 := rS.cell 1
  simp only [List.getElem?_cons_zero, List.getElem?_cons_succ] at s0 s1
  have u0 := Kl.cell rS.lt s0
  have u1 := Kl.cell rS.lt s1
  clear hV rJ rF rS rR hb hsz s0 s1
  go_enter Try.func54, Try.ntmps54
  go_wp2_with fail
  rw [← HV.out]
  refine wp_region_below (by kernel_rfl) (by kernel_rfl) ?_
  repeat (go_big_quiet_step (fail))
  refine wpQuiet_nil ?_
  rintro _ ⟨wq, rfl⟩
  have BQ := Lib.hid wq.h
  generalize wq.W = w2 at *
  clear u0 u1
  have rJ := RJ.out.below BQ.out RJ.out.lt
  have rF := RF.out.below BQ.out RF.out.lt
  have rR := RR.out.below BQ.out RR.out.lt
  have RF2 := Lib.hid rF
  have RR2 := Lib.hid rR
  have j1 := rJ.cell 1
  have j2 := rJ.cell 2
  have j3 := rJ.cell 3
  have j4 := rJ.cell 4
  have c0 := rF.cell 0
  have c1 := rF.cell 1
  have c2 := rF.cell 2
  have c3 := rF.cell 3
  have z0 := rR.cell 0
  have z1 := rR.cell 1
  have z2 := rR.cell 2
  have z3 := rR.cell 3
  have k0 := frozen_of_row _ (w.heap.size + 1) 0 _ _ rF
  have k1 := frozen_of_row _ (w.heap.size + 1) 1 _ _ rF
  have k2 := frozen_of_row _ (w.heap.size + 1) 2 _ _ rF
  have k3 := frozen_of_row _ (w.heap.size + 1) 3 _ _ rF
  have l0 := frozen_of_row _ (w.heap.size + 1 + 1 + 1) 0 _ _ rR
  have l1 := frozen_of_row _ (w.heap.size + 1 + 1 + 1) 1 _ _ rR
  have l2 := frozen_of_row _ (w.heap.size + 1 + 1 + 1) 2 _ _ rR
  have l3 := frozen_of_row _ (w.heap.size + 1 + 1 + 1) 3 _ _ rR
  simp only [List.getElem?_cons_zero, List.getElem?_cons_succ] at j1 j2 j3 j4 c0 c1 c2 c3 z0 z1 z2 z3
  clear rJ rF rR
  go_wp2_with fail
  have hr : Row (((((w2.setCell ⟨w.heap.size + 1, 1, none⟩ (.int .i64 0)).setCell ⟨w.heap.size + 1 + 1 + 1, 0, none⟩ (.int .i64 f0)).setCell ⟨w.heap.size + 1 + 1 + 1, 1, none⟩ (.int .i64 0)).setCell ⟨w.heap.size + 1 + 1 + 1, 2, none⟩ (.int .i64 f2)).setCell ⟨w.heap.size + 1 + 1 + 1, 3, none⟩ (.int .i64 f3)) (w.heap.size + 1 + 1 + 1) 77 [.int .i64 f0, .int .i64 0, .int .i64 f2, .int .i64 f3] := by
    simpa using (((((RR2.out.other (1) (.int .i64 0) (g' := w.heap.size + 1) (by omega)).set 0 (.int .i64 f0)).set 1 (.int .i64 0)).set 2 (.int .i64 f2)).set 3 (.int .i64 f3))
  have v0 := hr.cell 0
  have v1 := hr.cell 1
  have v2 := hr.cell 2
  have v3 := hr.cell 3
  simp only [List.getElem?_cons_zero, List.getElem?_cons_succ] at v0 v1 v2 v3
  refine bodyPost_ret (v := .agg #[.int .i64 f0, .int .i64 0, .int .i64 f2, .int .i64 f3]) (by simp [results, Try.results54, go_sem, v0, v1, v2, v3]) rfl ⟨rfl, ?_⟩
  exact ((((((Below.andThen B0.out BQ.out (Nat.le_refl _)).setCell (p := ⟨w.heap.size + 1, 1, none⟩) (by dsimp only; omega) (.int .i64 0)).setCell (p := ⟨w.heap.size + 1 + 1 + 1, 0, none⟩) (by dsimp only; omega) (.int .i64 f0)).setCell (p := ⟨w.heap.size + 1 + 1 + 1, 1, none⟩) (by dsimp only; omega) (.int .i64 0)).setCell (p := ⟨w.heap.size + 1 + 1 + 1, 2, none⟩) (by dsimp only; omega) (.int .i64 f2)).setCell (p := ⟨w.heap.size + 1 + 1 + 1, 3, none⟩) (by dsimp only; omega) (.int .i64 f3))
set_option maxRecDepth 100000 in
set_option maxHeartbeats 1000000 in
theorem after_1_0l (n p0 p1 p2 p3 f0 f1 f2 f3 : Int) (hf : 0 ≤ f1 ∧ f1 ≤ 12) (ht : 0 ≤ f0 ∧ f0 ≤ p0) (hp : p0 ≤ 12) (hmin : f1 ≤ p0 - f0) (w : World) :
    Calls Try.prog 54 #[.agg #[.int .i64 n, .int .i64 p0, .int .i64 p1, .int .i64 p2, .int .i64 p3], .agg #[.int .i64 f0, .int .i64 f1, .int .i64 f2, .int .i64 f3], .agg #[.int .i64 1, .int .i64 0]] w fun e w' => e = .returned (aggI (afterF [p0, p1, p2, p3] [f0, f1, f2, f3] 1 0)) ∧ Below w.heap.size w w' := by
  obtain ⟨V, hV, rJ, rF, rS, rR, hb, hsz⟩ := after_start w [.int .i64 n, .int .i64 p0, .int .i64 p1, .int .i64 p2, .int .i64 p3] [.int .i64 f0, .int .i64 f1, .int .i64 f2, .int .i64 f3] [.int .i64 1, .int .i64 0] [.int .i64 0, .int .i64 0, .int .i64 0, .int .i64 0]
  have e1 : IntKind.i64.wrap (p0 - f0) = p0 - f0 := i64_of _ (by omega) (by omega)
  have e2 : IntKind.i64.wrap (f1 - f1) = f1 - f1 := i64_of _ (by omega) (by omega)
  have e3 : IntKind.i64.wrap (f0 + f1) = f0 + f1 := i64_of _ (by omega) (by omega)
  have hm : min f1 (p0 - f0) = f1 := by omega
  have FIN : Hid (aggI (afterF [p0, p1, p2, p3] [f0, f1, f2, f3] 1 0) = .agg #[.int .i64 (f0 + f1), .int .i64 0, .int .i64 f2, .int .i64 f3]) := Lib.hid (by simp [afterF, aggI, encI, hm])
  rw [FIN.out]
  have HV := Lib.hid hV
  have RJ := Lib.hid rJ
  have RF := Lib.hid rF
  have RR := Lib.hid rR
  have B0 := Lib.hid hb
  have s0 := rS.cell 0
  have s1 := rS.cell 1
  simp only [List.getElem?_cons_zero, List.getElem?_cons_succ] at s0 s1
  have u0 := Kl.cell rS.lt s0
  have u1 := Kl.cell rS.lt s1
  clear hV rJ rF rS rR hb hsz s0 s1
  go_enter Try.func54, Try.ntmps54
  go_wp2_with fail
  rw [← HV.out]
  refine wp_region_below (by kernel_rfl) (by kernel_rfl) ?_
  repeat (go_big_quiet_step (fail))
  refine wpQuiet_nil ?_
  rintro _ ⟨wq, rfl⟩
  have BQ := Lib.hid wq.h
  generalize wq.W = w2 at *
  clear u0 u1
  have q1 := (RF.out.below BQ.out RF.out.lt).cell 1
  have q2 := (RF.out.below BQ.out RF.out.lt).cell 0
  have q3 := (RJ.out.below BQ.out RJ.out.lt).cell 1
  simp only [List.getElem?_cons_zero, List.getElem?_cons_succ] at q1 q2 q3
  have u0 := Kl.cell (RF.out.below BQ.out RF.out.lt).lt q1
  have u1 := Kl.cell (RF.out.below BQ.out RF.out.lt).lt q2
  have u2 := Kl.cell (RJ.out.below BQ.out RJ.out.lt).lt q3
  clear q1 q2 q3
  go_wp2_with fail
  refine wp_region_below (by kernel_rfl) (by kernel_rfl) ?_
  repeat (go_big_quiet_step (fail))
  refine wpQuiet_nil ?_
  rintro _ ⟨wq, rfl⟩
  have BQ := Lib.hid (Below.andThen BQ.out wq.h (by have := BQ.out.size; have := RR.out.lt; omega))
  generalize wq.W = w2 at *
  clear u0 u1 u2
  have rJ := RJ.out.below BQ.out RJ.out.lt
  have rF := RF.out.below BQ.out RF.out.lt
  have rR := RR.out.below BQ.out RR.out.lt
  have RF2 := Lib.hid rF
  have RR2 := Lib.hid rR
  have j1 := rJ.cell 1
  have j2 := rJ.cell 2
  have j3 := rJ.cell 3
  have j4 := rJ.cell 4
  have c0 := rF.cell 0
  have c1 := rF.cell 1
  have c2 := rF.cell 2
  have c3 := rF.cell 3
  have z0 := rR.cell 0
  have z1 := rR.cell 1
  have z2 := rR.cell 2
  have z3 := rR.cell 3
  have k0 := frozen_of_row _ (w.heap.size + 1) 0 _ _ rF
  have k1 := frozen_of_row _ (w.heap.size + 1) 1 _ _ rF
  have k2 := frozen_of_row _ (w.heap.size + 1) 2 _ _ rF
  have k3 := frozen_of_row _ (w.heap.size + 1) 3 _ _ rF
  have l0 := frozen_of_row _ (w.heap.size + 1 + 1 + 1) 0 _ _ rR
  have l1 := frozen_of_row _ (w.heap.size + 1 + 1 + 1) 1 _ _ rR
  have l2 := frozen_of_row _ (w.heap.size + 1 + 1 + 1) 2 _ _ rR
  have l3 := frozen_of_row _ (w.heap.size + 1 + 1 + 1) 3 _ _ rR
  simp only [List.getElem?_cons_zero, List.getElem?_cons_succ] at j1 j2 j3 j4 c0 c1 c2 c3 z0 z1 z2 z3
  clear rJ rF rR
  go_wp2_with fail
  all_goals first | (exfalso; omega) | skip
  have hr : Row ((((((w2.setCell ⟨w.heap.size + 1, 1, none⟩ (.int .i64 0)).setCell ⟨w.heap.size + 1, 0, none⟩ (.int .i64 (f0 + f1))).setCell ⟨w.heap.size + 1 + 1 + 1, 0, none⟩ (.int .i64 (f0 + f1))).setCell ⟨w.heap.size + 1 + 1 + 1, 1, none⟩ (.int .i64 0)).setCell ⟨w.heap.size + 1 + 1 + 1, 2, none⟩ (.int .i64 f2)).setCell ⟨w.heap.size + 1 + 1 + 1, 3, none⟩ (.int .i64 f3)) (w.heap.size + 1 + 1 + 1) 77 [.int .i64 (f0 + f1), .int .i64 0, .int .i64 f2, .int .i64 f3] := by
    simpa using ((((((RR2.out.other (1) (.int .i64 0) (g' := w.heap.size + 1) (by omega)).other (0) (.int .i64 (f0 + f1)) (g' := w.heap.size + 1) (by omega)).set 0 (.int .i64 (f0 + f1))).set 1 (.int .i64 0)).set 2 (.int .i64 f2)).set 3 (.int .i64 f3))
  have v0 := hr.cell 0
  have v1 := hr.cell 1
  have v2 := hr.cell 2
  have v3 := hr.cell 3
  simp only [List.getElem?_cons_zero, List.getElem?_cons_succ] at v0 v1 v2 v3
  refine bodyPost_ret (v := .agg #[.int .i64 (f0 + f1), .int .i64 0, .int .i64 f2, .int .i64 f3]) (by simp [results, Try.results54, go_sem, v0, v1, v2, v3]) rfl ⟨rfl, ?_⟩
  exact (((((((Below.andThen B0.out BQ.out (Nat.le_refl _)).setCell (p := ⟨w.heap.size + 1, 1, none⟩) (by dsimp only; omega) (.int .i64 0)).setCell (p := ⟨w.heap.size + 1, 0, none⟩) (by dsimp only; omega) (.int .i64 (f0 + f1))).setCell (p := ⟨w.heap.size + 1 + 1 + 1, 0, none⟩) (by dsimp only; omega) (.int .i64 (f0 + f1))).setCell (p := ⟨w.heap.size + 1 + 1 + 1, 1, none⟩) (by dsimp only; omega) (.int .i64 0)).setCell (p := ⟨w.heap.size + 1 + 1 + 1, 2, none⟩) (by dsimp only; omega) (.int .i64 f2)).setCell (p := ⟨w.heap.size + 1 + 1 + 1, 3, none⟩) (by dsimp only; omega) (.int .i64 f3))
set_option maxRecDepth 100000 in
set_option maxHeartbeats 1000000 in
theorem after_1_0h (n p0 p1 p2 p3 f0 f1 f2 f3 : Int) (hf : 0 ≤ f1 ∧ f1 ≤ 12) (ht : 0 ≤ f0 ∧ f0 ≤ p0) (hp : p0 ≤ 12) (hmin : p0 - f0 < f1) (w : World) :
    Calls Try.prog 54 #[.agg #[.int .i64 n, .int .i64 p0, .int .i64 p1, .int .i64 p2, .int .i64 p3], .agg #[.int .i64 f0, .int .i64 f1, .int .i64 f2, .int .i64 f3], .agg #[.int .i64 1, .int .i64 0]] w fun e w' => e = .returned (aggI (afterF [p0, p1, p2, p3] [f0, f1, f2, f3] 1 0)) ∧ Below w.heap.size w w' := by
  obtain ⟨V, hV, rJ, rF, rS, rR, hb, hsz⟩ := after_start w [.int .i64 n, .int .i64 p0, .int .i64 p1, .int .i64 p2, .int .i64 p3] [.int .i64 f0, .int .i64 f1, .int .i64 f2, .int .i64 f3] [.int .i64 1, .int .i64 0] [.int .i64 0, .int .i64 0, .int .i64 0, .int .i64 0]
  have e1 : IntKind.i64.wrap (p0 - f0) = p0 - f0 := i64_of _ (by omega) (by omega)
  have e2 : IntKind.i64.wrap (f1 - (p0 - f0)) = f1 - (p0 - f0) := i64_of _ (by omega) (by omega)
  have e3 : IntKind.i64.wrap (f0 + (p0 - f0)) = f0 + (p0 - f0) := i64_of _ (by omega) (by omega)
  have hm : min f1 (p0 - f0) = (p0 - f0) := by omega
  have FIN : Hid (aggI (afterF [p0, p1, p2, p3] [f0, f1, f2, f3] 1 0) = .agg #[.int .i64 (f0 + (p0 - f0)), .int .i64 (f1 - (p0 - f0)), .int .i64 f2, .int .i64 f3]) := Lib.hid (by simp [afterF, aggI, encI, hm])
  rw [FIN.out]
  have HV := Lib.hid hV
  have RJ := Lib.hid rJ
  have RF := Lib.hid rF
  have RR := Lib.hid rR
  have B0 := Lib.hid hb
  have s0 := rS.cell 0
  have s1 := rS.cell 1
  simp only [List.getElem?_cons_zero, List.getElem?_cons_succ] at s0 s1
  have u0 := Kl.cell rS.lt s0
  have u1 := Kl.cell rS.lt s1
  clear hV rJ rF rS rR hb hsz s0 s1
  go_enter Try.func54, Try.ntmps54
  go_wp2_with fail
  rw [← HV.out]
  refine wp_region_below (by kernel_rfl) (by kernel_rfl) ?_
  repeat (go_big_quiet_step (fail))
  refine wpQuiet_nil ?_
  rintro _ ⟨wq, rfl⟩
  have BQ := Lib.hid wq.h
  generalize wq.W = w2 at *
  clear u0 u1
  have q1 := (RF.out.below BQ.out RF.out.lt).cell 1
  have q2 := (RF.out.below BQ.out RF.out.lt).cell 0
  have q3 := (RJ.out.below BQ.out RJ.out.lt).cell 1
  simp only [List.getElem?_cons_zero, List.getElem?_cons_succ] at q1 q2 q3
  have u0 := Kl.cell (RF.out.below BQ.out RF.out.lt).lt q1
  have u1 := Kl.cell (RF.out.below BQ.out RF.out.lt).lt q2
  have u2 := Kl.cell (RJ.out.below BQ.out RJ.out.lt).lt q3
  clear q1 q2 q3
  go_wp2_with fail
  refine wp_region_below (by kernel_rfl) (by kernel_rfl) ?_
  repeat (go_big_quiet_step (fail))
  refine wpQuiet_nil ?_
  rintro _ ⟨wq, rfl⟩
  have BQ := Lib.hid (Below.andThen BQ.out wq.h (by have := BQ.out.size; have := RR.out.lt; omega))
  generalize wq.W = w2 at *
  clear u0 u1 u2
  have rJ := RJ.out.below BQ.out RJ.out.lt
  have rF := RF.out.below BQ.out RF.out.lt
  have rR := RR.out.below BQ.out RR.out.lt
  have RF2 := Lib.hid rF
  have RR2 := Lib.hid rR
  have j1 := rJ.cell 1
  have j2 := rJ.cell 2
  have j3 := rJ.cell 3
  have j4 := rJ.cell 4
  have c0 := rF.cell 0
  have c1 := rF.cell 1
  have c2 := rF.cell 2
  have c3 := rF.cell 3
  have z0 := rR.cell 0
  have z1 := rR.cell 1
  have z2 := rR.cell 2
  have z3 := rR.cell 3
  have k0 := frozen_of_row _ (w.heap.size + 1) 0 _ _ rF
  have k1 := frozen_of_row _ (w.heap.size + 1) 1 _ _ rF
  have k2 := frozen_of_row _ (w.heap.size + 1) 2 _ _ rF
  have k3 := frozen_of_row _ (w.heap.size + 1) 3 _ _ rF
  have l0 := frozen_of_row _ (w.heap.size + 1 + 1 + 1) 0 _ _ rR
  have l1 := frozen_of_row _ (w.heap.size + 1 + 1 + 1) 1 _ _ rR
  have l2 := frozen_of_row _ (w.heap.size + 1 + 1 + 1) 2 _ _ rR
  have l3 := frozen_of_row _ (w.heap.size + 1 + 1 + 1) 3 _ _ rR
  simp only [List.getElem?_cons_zero, List.getElem?_cons_succ] at j1 j2 j3 j4 c0 c1 c2 c3 z0 z1 z2 z3
  clear rJ rF rR
  go_wp2_with fail
  all_goals first | (exfalso; omega) | skip
  have hr : Row ((((((w2.setCell ⟨w.heap.size + 1, 1, none⟩ (.int .i64 (f1 - (p0 - f0)))).setCell ⟨w.heap.size + 1, 0, none⟩ (.int .i64 (f0 + (p0 - f0)))).setCell ⟨w.heap.size + 1 + 1 + 1, 0, none⟩ (.int .i64 (f0 + (p0 - f0)))).setCell ⟨w.heap.size + 1 + 1 + 1, 1, none⟩ (.int .i64 (f1 - (p0 - f0)))).setCell ⟨w.heap.size + 1 + 1 + 1, 2, none⟩ (.int .i64 f2)).setCell ⟨w.heap.size + 1 + 1 + 1, 3, none⟩ (.int .i64 f3)) (w.heap.size + 1 + 1 + 1) 77 [.int .i64 (f0 + (p0 - f0)), .int .i64 (f1 - (p0 - f0)), .int .i64 f2, .int .i64 f3] := by
    simpa using ((((((RR2.out.other (1) (.int .i64 (f1 - (p0 - f0))) (g' := w.heap.size + 1) (by omega)).other (0) (.int .i64 (f0 + (p0 - f0))) (g' := w.heap.size + 1) (by omega)).set 0 (.int .i64 (f0 + (p0 - f0)))).set 1 (.int .i64 (f1 - (p0 - f0)))).set 2 (.int .i64 f2)).set 3 (.int .i64 f3))
  have v0 := hr.cell 0
  have v1 := hr.cell 1
  have v2 := hr.cell 2
  have v3 := hr.cell 3
  simp only [List.getElem?_cons_zero, List.getElem?_cons_succ] at v0 v1 v2 v3
  refine bodyPost_ret (v := .agg #[.int .i64 (f0 + (p0 - f0)), .int .i64 (f1 - (p0 - f0)), .int .i64 f2, .int .i64 f3]) (by simp [results, Try.results54, go_sem, v0, v1, v2, v3]) rfl ⟨rfl, ?_⟩
  exact (((((((Below.andThen B0.out BQ.out (Nat.le_refl _)).setCell (p := ⟨w.heap.size + 1, 1, none⟩) (by dsimp only; omega) (.int .i64 (f1 - (p0 - f0)))).setCell (p := ⟨w.heap.size + 1, 0, none⟩) (by dsimp only; omega) (.int .i64 (f0 + (p0 - f0)))).setCell (p := ⟨w.heap.size + 1 + 1 + 1, 0, none⟩) (by dsimp only; omega) (.int .i64 (f0 + (p0 - f0)))).setCell (p := ⟨w.heap.size + 1 + 1 + 1, 1, none⟩) (by dsimp only; omega) (.int .i64 (f1 - (p0 - f0)))).setCell (p := ⟨w.heap.size + 1 + 1 + 1, 2, none⟩) (by dsimp only; omega) (.int .i64 f2)).setCell (p := ⟨w.heap.size + 1 + 1 + 1, 3, none⟩) (by dsimp only; omega) (.int .i64 f3))
set_option maxRecDepth 100000 in
set_option maxHeartbeats 1000000 in
theorem after_1_2l (n p0 p1 p2 p3 f0 f1 f2 f3 : Int) (hf : 0 ≤ f1 ∧ f1 ≤ 12) (ht : 0 ≤ f2 ∧ f2 ≤ p2) (hp : p2 ≤ 12) (hmin : f1 ≤ p2 - f2) (w : World) :
    Calls Try.prog 54 #[.agg #[.int .i64 n, .int .i64 p0, .int .i64 p1, .int .i64 p2, .int .i64 p3], .agg #[.int .i64 f0, .int .i64 f1, .int .i64 f2, .int .i64 f3], .agg #[.int .i64 1, .int .i64 2]] w fun e w' => e = .returned (aggI (afterF [p0, p1, p2, p3] [f0, f1, f2, f3] 1 2)) ∧ Below w.heap.size w w' := by
  obtain ⟨V, hV, rJ, rF, rS, rR, hb, hsz⟩ := after_start w [.int .i64 n, .int .i64 p0, .int .i64 p1, .int .i64 p2, .int .i64 p3] [.int .i64 f0, .int .i64 f1, .int .i64 f2, .int .i64 f3] [.int .i64 1, .int .i64 2] [.int .i64 0, .int .i64 0, .int .i64 0, .int .i64 0]
  have e1 : IntKind.i64.wrap (p2 - f2) = p2 - f2 := i64_of _ (by omega) (by omega)
  have e2 : IntKind.i64.wrap (f1 - f1) = f1 - f1 := i64_of _ (by omega) (by omega)
  have e3 : IntKind.i64.wrap (f2 + f1) = f2 + f1 := i64_of _ (by omega) (by omega)
  have hm : min f1 (p2 - f2) = f1 := by omega
  have FIN : Hid (aggI (afterF [p0, p1, p2, p3] [f0, f1, f2, f3] 1 2) = .agg #[.int .i64 f0, .int .i64 0, .int .i64 (f2 + f1), .int .i64 f3]) := Lib.hid (by simp [afterF, aggI, encI, hm])
  rw [FIN.out]
  have HV := Lib.hid hV
  have RJ := Lib.hid rJ
  have RF := Lib.hid rF
  have RR := Lib.hid rR
  have B0 := Lib.hid hb
  have s0 := rS.cell 0
  have s1 := rS.cell 1
  simp only [List.getElem?_cons_zero, List.getElem?_cons_succ] at s0 s1
  have u0 := Kl.cell rS.lt s0
  have u1 := Kl.cell rS.lt s1
  clear hV rJ rF rS rR hb hsz s0 s1
  go_enter Try.func54, Try.ntmps54
  go_wp2_with fail
  rw [← HV.out]
  refine wp_region_below (by kernel_rfl) (by kernel_rfl) ?_
  repeat (go_big_quiet_step (fail))
  refine wpQuiet_nil ?_
  rintro _ ⟨wq, rfl⟩
  have BQ := Lib.hid wq.h
  generalize wq.W = w2 at *
  clear u0 u1
  have q1 := (RF.out.below BQ.out RF.out.lt).cell 1
  have q2 := (RF.out.below BQ.out RF.out.lt).cell 2
  have q3 := (RJ.out.below BQ.out RJ.out.lt).cell 3
  simp only [List.getElem?_cons_zero, List.getElem?_cons_succ] at q1 q2 q3
  have u0 := Kl.cell (RF.out.below BQ.out RF.out.lt).lt q1
  have u1 := Kl.cell (RF.out.below BQ.out RF.out.lt).lt q2
  have u2 := Kl.cell (RJ.out.below BQ.out RJ.out.lt).lt q3
  clear q1 q2 q3
  go_wp2_with fail
  refine wp_region_below (by kernel_rfl) (by kernel_rfl) ?_
  repeat (go_big_quiet_step (fail))
  refine wpQuiet_nil ?_
  rintro _ ⟨wq, rfl⟩
  have BQ := Lib.hid (Below.andThen BQ.out wq.h (by have := BQ.out.size; have := RR.out.lt; omega))
  generalize wq.W = w2 at *
  clear u0 u1 u2
  have rJ := RJ.out.below BQ.out RJ.out.lt
  have rF := RF.out.below BQ.out RF.out.lt
  have rR := RR.out.below BQ.out RR.out.lt
  have RF2 := Lib.hid rF
  have RR2 := Lib.hid rR
  have j1 := rJ.cell 1
  have j2 := rJ.cell 2
  have j3 := rJ.cell 3
  have j4 := rJ.cell 4
  have c0 := rF.cell 0
  have c1 := rF.cell 1
  have c2 := rF.cell 2
  have c3 := rF.cell 3
  have z0 := rR.cell 0
  have z1 := rR.cell 1
  have z2 := rR.cell 2
  have z3 := rR.cell 3
  have k0 := frozen_of_row _ (w.heap.size + 1) 0 _ _ rF
  have k1 := frozen_of_row _ (w.heap.size + 1) 1 _ _ rF
  have k2 := frozen_of_row _ (w.heap.size + 1) 2 _ _ rF
  have k3 := frozen_of_row _ (w.heap.size + 1) 3 _ _ rF
  have l0 := frozen_of_row _ (w.heap.size + 1 + 1 + 1) 0 _ _ rR
  have l1 := frozen_of_row _ (w.heap.size + 1 + 1 + 1) 1 _ _ rR
  have l2 := frozen_of_row _ (w.heap.size + 1 + 1 + 1) 2 _ _ rR
  have l3 := frozen_of_row _ (w.heap.size + 1 + 1 + 1) 3 _ _ rR
  simp only [List.getElem?_cons_zero, List.getElem?_cons_succ] at j1 j2 j3 j4 c0 c1 c2 c3 z0 z1 z2 z3
  clear rJ rF rR
  go_wp2_with fail
  all_goals first | (exfalso; omega) | skip
  have hr : Row ((((((w2.setCell ⟨w.heap.size + 1, 1, none⟩ (.int .i64 0)).setCell ⟨w.heap.size + 1, 2, none⟩ (.int .i64 (f2 + f1))).setCell ⟨w.heap.size + 1 + 1 + 1, 0, none⟩ (.int .i64 f0)).setCell ⟨w.heap.size + 1 + 1 + 1, 1, none⟩ (.int .i64 0)).setCell ⟨w.heap.size + 1 + 1 + 1, 2, none⟩ (.int .i64 (f2 + f1))).setCell ⟨w.heap.size + 1 + 1 + 1, 3, none⟩ (.int .i64 f3)) (w.heap.size + 1 + 1 + 1) 77 [.int .i64 f0, .int .i64 0, .int .i64 (f2 + f1), .int .i64 f3] := by
    simpa using ((((((RR2.out.other (1) (.int .i64 0) (g' := w.heap.size + 1) (by omega)).other (2) (.int .i64 (f2 + f1)) (g' := w.heap.size + 1) (by omega)).set 0 (.int .i64 f0)).set 1 (.int .i64 0)).set 2 (.int .i64 (f2 + f1))).set 3 (.int .i64 f3))
  have v0 := hr.cell 0
  have v1 := hr.cell 1
  have v2 := hr.cell 2
  have v3 := hr.cell 3
  simp only [List.getElem?_cons_zero, List.getElem?_cons_succ] at v0 v1 v2 v3
  refine bodyPost_ret (v := .agg #[.int .i64 f0, .int .i64 0, .int .i64 (f2 + f1), .int .i64 f3]) (by simp [results, Try.results54, go_sem, v0, v1, v2, v3]) rfl ⟨rfl, ?_⟩
  exact (((((((Below.andThen B0.out BQ.out (Nat.le_refl _)).setCell (p := ⟨w.heap.size + 1, 1, none⟩) (by dsimp only; omega) (.int .i64 0)).setCell (p := ⟨w.heap.size + 1, 2, none⟩) (by dsimp only; omega) (.int .i64 (f2 + f1))).setCell (p := ⟨w.heap.size + 1 + 1 + 1, 0, none⟩) (by dsimp only; omega) (.int .i64 f0)).setCell (p := ⟨w.heap.size + 1 + 1 + 1, 1, none⟩) (by dsimp only; omega) (.int .i64 0)).setCell (p := ⟨w.heap.size + 1 + 1 + 1, 2, none⟩) (by dsimp only; omega) (.int .i64 (f2 + f1))).setCell (p := ⟨w.heap.size + 1 + 1 + 1, 3, none⟩) (by dsimp only; omega) (.int .i64 f3))
set_option maxRecDepth 100000 in
set_option maxHeartbeats 1000000 in
theorem after_1_2h (n p0 p1 p2 p3 f0 f1 f2 f3 : Int) (hf : 0 ≤ f1 ∧ f1 ≤ 12) (ht : 0 ≤ f2 ∧ f2 ≤ p2) (hp : p2 ≤ 12) (hmin : p2 - f2 < f1) (w : World) :
    Calls Try.prog 54 #[.agg #[.int .i64 n, .int .i64 p0, .int .i64 p1, .int .i64 p2, .int .i64 p3], .agg #[.int .i64 f0, .int .i64 f1, .int .i64 f2, .int .i64 f3], .agg #[.int .i64 1, .int .i64 2]] w fun e w' => e = .returned (aggI (afterF [p0, p1, p2, p3] [f0, f1, f2, f3] 1 2)) ∧ Below w.heap.size w w' := by
  obtain ⟨V, hV, rJ, rF, rS, rR, hb, hsz⟩ := after_start w [.int .i64 n, .int .i64 p0, .int .i64 p1, .int .i64 p2, .int .i64 p3] [.int .i64 f0, .int .i64 f1, .int .i64 f2, .int .i64 f3] [.int .i64 1, .int .i64 2] [.int .i64 0, .int .i64 0, .int .i64 0, .int .i64 0]
  have e1 : IntKind.i64.wrap (p2 - f2) = p2 - f2 := i64_of _ (by omega) (by omega)
  have e2 : IntKind.i64.wrap (f1 - (p2 - f2)) = f1 - (p2 - f2) := i64_of _ (by omega) (by omega)
  have e3 : IntKind.i64.wrap (f2 + (p2 - f2)) = f2 + (p2 - f2) := i64_of _ (by omega) (by omega)
  have hm : min f1 (p2 - f2) = (p2 - f2) := by omega
  have FIN : Hid (aggI (afterF [p0, p1, p2, p3] [f0, f1, f2, f3] 1 2) = .agg #[.int .i64 f0, .int .i64 (f1 - (p2 - f2)), .int .i64 (f2 + (p2 - f2)), .int .i64 f3]) := Lib.hid (by simp [afterF, aggI, encI, hm])
  rw [FIN.out]
  have HV := Lib.hid hV
  have RJ := Lib.hid rJ
  have RF := Lib.hid rF
  have RR := Lib.hid rR
  have B0 := Lib.hid hb
  have s0 := rS.cell 0
  have s1 := rS.cell 1
  simp only [List.getElem?_cons_zero, List.getElem?_cons_succ] at s0 s1
  have u0 := Kl.cell rS.lt s0
  have u1 := Kl.cell rS.lt s1
  clear hV rJ rF rS rR hb hsz s0 s1
  go_enter Try.func54, Try.ntmps54
  go_wp2_with fail
  rw [← HV.out]
  refine wp_region_below (by kernel_rfl) (by kernel_rfl) ?_
  repeat (go_big_quiet_step (fail))
  refine wpQuiet_nil ?_
  rintro _ ⟨wq, rfl⟩
  have BQ := Lib.hid wq.h
  generalize wq.W = w2 at *
  clear u0 u1
  have q1 := (RF.out.below BQ.out RF.out.lt).cell 1
  have q2 := (RF.out.below BQ.out RF.out.lt).cell 2
  have q3 := (RJ.out.below BQ.out RJ.out.lt).cell 3
  simp only [List.getElem?_cons_zero, List.getElem?_cons_succ] at q1 q2 q3
  have u0 := Kl.cell (RF.out.below BQ.out RF.out.lt).lt q1
  have u1 := Kl.cell (RF.out.below BQ.out RF.out.lt).lt q2
  have u2 := Kl.cell (RJ.out.below BQ.out RJ.out.lt).lt q3
  clear q1 q2 q3
  go_wp2_with fail
  refine wp_region_below (by kernel_rfl) (by kernel_rfl) ?_
  repeat (go_big_quiet_step (fail))
  refine wpQuiet_nil ?_
  rintro _ ⟨wq, rfl⟩
  have BQ := Lib.hid (Below.andThen BQ.out wq.h (by have := BQ.out.size; have := RR.out.lt; omega))
  generalize wq.W = w2 at *
  clear u0 u1 u2
  have rJ := RJ.out.below BQ.out RJ.out.lt
  have rF := RF.out.below BQ.out RF.out.lt
  have rR := RR.out.below BQ.out RR.out.lt
  have RF2 := Lib.hid rF
  have RR2 := Lib.hid rR
  have j1 := rJ.cell 1
  have j2 := rJ.cell 2
  have j3 := rJ.cell 3
  have j4 := rJ.cell 4
  have c0 := rF.cell 0
  have c1 := rF.cell 1
  have c2 := rF.cell 2
  have c3 := rF.cell 3
  have z0 := rR.cell 0
  have z1 := rR.cell 1
  have z2 := rR.cell 2
  have z3 := rR.cell 3
  have k0 := frozen_of_row _ (w.heap.size + 1) 0 _ _ rF
  have k1 := frozen_of_row _ (w.heap.size + 1) 1 _ _ rF
  have k2 := frozen_of_row _ (w.heap.size + 1) 2 _ _ rF
  have k3 := frozen_of_row _ (w.heap.size + 1) 3 _ _ rF
  have l0 := frozen_of_row _ (w.heap.size + 1 + 1 + 1) 0 _ _ rR
  have l1 := frozen_of_row _ (w.heap.size + 1 + 1 + 1) 1 _ _ rR
  have l2 := frozen_of_row _ (w.heap.size + 1 + 1 + 1) 2 _ _ rR
  have l3 := frozen_of_row _ (w.heap.size + 1 + 1 + 1) 3 _ _ rR
  simp only [List.getElem?_cons_zero, List.getElem?_cons_succ] at j1 j2 j3 j4 c0 c1 c2 c3 z0 z1 z2 z3
  clear rJ rF rR
  go_wp2_with fail
  all_goals first | (exfalso; omega) | skip
  have hr : Row ((((((w2.setCell ⟨w.heap.size + 1, 1, none⟩ (.int .i64 (f1 - (p2 - f2)))).setCell ⟨w.heap.size + 1, 2, none⟩ (.int .i64 (f2 + (p2 - f2)))).setCell ⟨w.heap.size + 1 + 1 + 1, 0, none⟩ (.int .i64 f0)).setCell ⟨w.heap.size + 1 + 1 + 1, 1, none⟩ (.int .i64 (f1 - (p2 - f2)))).setCell ⟨w.heap.size + 1 + 1 + 1, 2, none⟩ (.int .i64 (f2 + (p2 - f2)))).setCell ⟨w.heap.size + 1 + 1 + 1, 3, none⟩ (.int .i64 f3)) (w.heap.size + 1 + 1 + 1) 77 [.int .i64 f0, .int .i64 (f1 - (p2 - f2)), .int .i64 (f2 + (p2 - f2)), .int .i64 f3] := by
    simpa using ((((((RR2.out.other (1) (.int .i64 (f1 - (p2 - f2))) (g' := w.heap.size + 1) (by omega)).other (2) (.int .i64 (f2 + (p2 - f2))) (g' := w.heap.size + 1) (by omega)).set 0 (.int .i64 f0)).set 1 (.int .i64 (f1 - (p2 - f2)))).set 2 (.int .i64 (f2 + (p2 - f2)))).set 3 (.int .i64 f3))
  have v0 := hr.cell 0
  have v1 := hr.cell 1
  have v2 := hr.cell 2
  have v3 := hr.cell 3
  simp only [List.getElem?_cons_zero, List.getElem?_cons_succ] at v0 v1 v2 v3
  refine bodyPost_ret (v := .agg #[.int .i64 f0, .int .i64 (f1 - (p2 - f2)), .int .i64 (f2 + (p2 - f2)), .int .i64 f3]) (by simp [results, Try.results54, go_sem, v0, v1, v2, v3]) rfl ⟨rfl, ?_⟩
  exact (((((((Below.andThen B0.out BQ.out (Nat.le_refl _)).setCell (p := ⟨w.heap.size + 1, 1, none⟩) (by dsimp only; omega) (.int .i64 (f1 - (p2 - f2)))).setCell (p := ⟨w.heap.size + 1, 2, none⟩) (by dsimp only; omega) (.int .i64 (f2 + (p2 - f2)))).setCell (p := ⟨w.heap.size + 1 + 1 + 1, 0, none⟩) (by dsimp only; omega) (.int .i64 f0)).setCell (p := ⟨w.heap.size + 1 + 1 + 1, 1, none⟩) (by dsimp only; omega) (.int .i64 (f1 - (p2 - f2)))).setCell (p := ⟨w.heap.size + 1 + 1 + 1, 2, none⟩) (by dsimp only; omega) (.int .i64 (f2 + (p2 - f2)))).setCell (p := ⟨w.heap.size + 1 + 1 + 1, 3, none⟩) (by dsimp only; omega) (.int .i64 f3))
set_option maxRecDepth 100000 in
set_option maxHeartbeats 1000000 in
theorem after_1_3l (n p0 p1 p2 p3 f0 f1 f2 f3 : Int) (hf : 0 ≤ f1 ∧ f1 ≤ 12) (ht : 0 ≤ f3 ∧ f3 ≤ p3) (hp : p3 ≤ 12) (hmin : f1 ≤ p3 - f3) (w : World) :
    Calls Try.prog 54 #[.agg #[.int .i64 n, .int .i64 p0, .int .i64 p1, .int .i64 p2, .int .i64 p3], .agg #[.int .i64 f0, .int .i64 f1, .int .i64 f2, .int .i64 f3], .agg #[.int .i64 1, .int .i64 3]] w fun e w' => e = .returned (aggI (afterF [p0, p1, p2, p3] [f0, f1, f2, f3] 1 3)) ∧ Below w.heap.size w w' := by
  obtain ⟨V, hV, rJ, rF, rS, rR, hb, hsz⟩ := after_start w [.int .i64 n, .int .i64 p0, .int .i64 p1, .int .i64 p2, .int .i64 p3] [.int .i64 f0, .int .i64 f1, .int .i64 f2, .int .i64 f3] [.int .i64 1, .int .i64 3] [.int .i64 0, .int .i64 0, .int .i64 0, .int .i64 0]
  have e1 : IntKind.i64.wrap (p3 - f3) = p3 - f3 := i64_of _ (by omega) (by omega)
  have e2 : IntKind.i64.wrap (f1 - f1) = f1 - f1 := i64_of _ (by omega) (by omega)
  have e3 : IntKind.i64.wrap (f3 + f1) = f3 + f1 := i64_of _ (by omega) (by omega)
  have hm : min f1 (p3 - f3) = f1 := by omega
  have FIN : Hid (aggI (afterF [p0, p1, p2, p3] [f0, f1, f2, f3] 1 3) = .agg #[.int .i64 f0, .int .i64 0, .int .i64 f2, .int .i64 (f3 + f1)]) := Lib.hid (by simp [afterF, aggI, encI, hm])
  rw [FIN.out]
  have HV := Lib.hid hV
  have RJ := Lib.hid rJ
  have RF := Lib.hid rF
  have RR := Lib.hid rR
  have B0 := Lib.hid hb
  have s0 := rS.cell 0
  have s1 := rS.cell 1
  simp only [List.getElem?_cons_zero, List.getElem?_cons_succ] at s0 s1
  have u0 := Kl.cell rS.lt s0
  have u1 := Kl.cell rS.lt s1
  clear hV rJ rF rS rR hb hsz s0 s1
  go_enter Try.func54, Try.ntmps54
  go_wp2_with fail
  rw [← HV.out]
  refine wp_region_below (by kernel_rfl) (by kernel_rfl) ?_
  repeat (go_big_quiet_step (fail))
  refine wpQuiet_nil ?_
  rintro _ ⟨wq, rfl⟩
  have BQ := Lib.hid wq.h
  generalize wq.W = w2 at *
  clear u0 u1
  have q1 := (RF.out.below BQ.out RF.out.lt).cell 1
  have q2 := (RF.out.below BQ.out RF.out.lt).cell 3
  have q3 := (RJ.out.below BQ.out RJ.out.lt).cell 4
  simp only [List.getElem?_cons_zero, List.getElem?_cons_succ] at q1 q2 q3
  have u0 := Kl.cell (RF.out.below BQ.out RF.out.lt).lt q1
  have u1 := Kl.cell (RF.out.below BQ.out RF.out.lt).lt q2
  have u2 := Kl.cell (RJ.out.below BQ.out RJ.out.lt).lt q3
  clear q1 q2 q3
  go_wp2_with fail
  refine wp_region_below (by kernel_rfl) (by kernel_rfl) ?_
  repeat (go_big_quiet_step (fail))
  refine wpQuiet_nil ?_
  rintro _ ⟨wq, rfl⟩
  have BQ := Lib.hid (Below.andThen BQ.out wq.h (by have := BQ.out.size; have := RR.out.lt; omega))
  generalize wq.W = w2 at *
  clear u0 u1 u2
  have rJ := RJ.out.below BQ.out RJ.out.lt
  have rF := RF.out.below BQ.out RF.out.lt
  have rR := RR.out.below BQ.out RR.out.lt
  have RF2 := Lib.hid rF
  have RR2 := Lib.hid rR
  have j1 := rJ.cell 1
  have j2 := rJ.cell 2
  have j3 := rJ.cell 3
  have j4 := rJ.cell 4
  have c0 := rF.cell 0
  have c1 := rF.cell 1
  have c2 := rF.cell 2
  have c3 := rF.cell 3
  have z0 := rR.cell 0
  have z1 := rR.cell 1
  have z2 := rR.cell 2
  have z3 := rR.cell 3
  have k0 := frozen_of_row _ (w.heap.size + 1) 0 _ _ rF
  have k1 := frozen_of_row _ (w.heap.size + 1) 1 _ _ rF
  have k2 := frozen_of_row _ (w.heap.size + 1) 2 _ _ rF
  have k3 := frozen_of_row _ (w.heap.size + 1) 3 _ _ rF
  have l0 := frozen_of_row _ (w.heap.size + 1 + 1 + 1) 0 _ _ rR
  have l1 := frozen_of_row _ (w.heap.size + 1 + 1 + 1) 1 _ _ rR
  have l2 := frozen_of_row _ (w.heap.size + 1 + 1 + 1) 2 _ _ rR
  have l3 := frozen_of_row _ (w.heap.size + 1 + 1 + 1) 3 _ _ rR
  simp only [List.getElem?_cons_zero, List.getElem?_cons_succ] at j1 j2 j3 j4 c0 c1 c2 c3 z0 z1 z2 z3
  clear rJ rF rR
  go_wp2_with fail
  all_goals first | (exfalso; omega) | skip
  have hr : Row ((((((w2.setCell ⟨w.heap.size + 1, 1, none⟩ (.int .i64 0)).setCell ⟨w.heap.size + 1, 3, none⟩ (.int .i64 (f3 + f1))).setCell ⟨w.heap.size + 1 + 1 + 1, 0, none⟩ (.int .i64 f0)).setCell ⟨w.heap.size + 1 + 1 + 1, 1, none⟩ (.int .i64 0)).setCell ⟨w.heap.size + 1 + 1 + 1, 2, none⟩ (.int .i64 f2)).setCell ⟨w.heap.size + 1 + 1 + 1, 3, none⟩ (.int .i64 (f3 + f1))) (w.heap.size + 1 + 1 + 1) 77 [.int .i64 f0, .int .i64 0, .int .i64 f2, .int .i64 (f3 + f1)] := by
    simpa using ((((((RR2.out.other (1) (.int .i64 0) (g' := w.heap.size + 1) (by omega)).other (3) (.int .i64 (f3 + f1)) (g' := w.heap.size + 1) (by omega)).set 0 (.int .i64 f0)).set 1 (.int .i64 0)).set 2 (.int .i64 f2)).set 3 (.int .i64 (f3 + f1)))
  have v0 := hr.cell 0
  have v1 := hr.cell 1
  have v2 := hr.cell 2
  have v3 := hr.cell 3
  simp only [List.getElem?_cons_zero, List.getElem?_cons_succ] at v0 v1 v2 v3
  refine bodyPost_ret (v := .agg #[.int .i64 f0, .int .i64 0, .int .i64 f2, .int .i64 (f3 + f1)]) (by simp [results, Try.results54, go_sem, v0, v1, v2, v3]) rfl ⟨rfl, ?_⟩
  exact (((((((Below.andThen B0.out BQ.out (Nat.le_refl _)).setCell (p := ⟨w.heap.size + 1, 1, none⟩) (by dsimp only; omega) (.int .i64 0)).setCell (p := ⟨w.heap.size + 1, 3, none⟩) (by dsimp only; omega) (.int .i64 (f3 + f1))).setCell (p := ⟨w.heap.size + 1 + 1 + 1, 0, none⟩) (by dsimp only; omega) (.int .i64 f0)).setCell (p := ⟨w.heap.size + 1 + 1 + 1, 1, none⟩) (by dsimp only; omega) (.int .i64 0)).setCell (p := ⟨w.heap.size + 1 + 1 + 1, 2, none⟩) (by dsimp only; omega) (.int .i64 f2)).setCell (p := ⟨w.heap.size + 1 + 1 + 1, 3, none⟩) (by dsimp only; omega) (.int .i64 (f3 + f1)))
set_option maxRecDepth 100000 in
set_option maxHeartbeats 1000000 in
theorem after_1_3h (n p0 p1 p2 p3 f0 f1 f2 f3 : Int) (hf : 0 ≤ f1 ∧ f1 ≤ 12) (ht : 0 ≤ f3 ∧ f3 ≤ p3) (hp : p3 ≤ 12) (hmin : p3 - f3 < f1) (w : World) :
    Calls Try.prog 54 #[.agg #[.int .i64 n, .int .i64 p0, .int .i64 p1, .int .i64 p2, .int .i64 p3], .agg #[.int .i64 f0, .int .i64 f1, .int .i64 f2, .int .i64 f3], .agg #[.int .i64 1, .int .i64 3]] w fun e w' => e = .returned (aggI (afterF [p0, p1, p2, p3] [f0, f1, f2, f3] 1 3)) ∧ Below w.heap.size w w' := by
  obtain ⟨V, hV, rJ, rF, rS, rR, hb, hsz⟩ := after_start w [.int .i64 n, .int .i64 p0, .int .i64 p1, .int .i64 p2, .int .i64 p3] [.int .i64 f0, .int .i64 f1, .int .i64 f2, .int .i64 f3] [.int .i64 1, .int .i64 3] [.int .i64 0, .int .i64 0, .int .i64 0, .int .i64 0]
  have e1 : IntKind.i64.wrap (p3 - f3) = p3 - f3 := i64_of _ (by omega) (by omega)
  have e2 : IntKind.i64.wrap (f1 - (p3 - f3)) = f1 - (p3 - f3) := i64_of _ (by omega) (by omega)
  have e3 : IntKind.i64.wrap (f3 + (p3 - f3)) = f3 + (p3 - f3) := i64_of _ (by omega) (by omega)
  have hm : min f1 (p3 - f3) = (p3 - f3) := by omega
  have FIN : Hid (aggI (afterF [p0, p1, p2, p3] [f0, f1, f2, f3] 1 3) = .agg #[.int .i64 f0, .int .i64 (f1 - (p3 - f3)), .int .i64 f2, .int .i64 (f3 + (p3 - f3))]) := Lib.hid (by simp [afterF, aggI, encI, hm])
  rw [FIN.out]
  have HV := Lib.hid hV
  have RJ := Lib.hid rJ
  have RF := Lib.hid rF
  have RR := Lib.hid rR
  have B0 := Lib.hid hb
  have s0 := rS.cell 0
  have s1 := rS.cell 1
  simp only [List.getElem?_cons_zero, List.getElem?_cons_succ] at s0 s1
  have u0 := Kl.cell rS.lt s0
  have u1 := Kl.cell rS.lt s1
  clear hV rJ rF rS rR hb hsz s0 s1
  go_enter Try.func54, Try.ntmps54
  go_wp2_with fail
  rw [← HV.out]
  refine wp_region_below (by kernel_rfl) (by kernel_rfl) ?_
  repeat (go_big_quiet_step (fail))
  refine wpQuiet_nil ?_
  rintro _ ⟨wq, rfl⟩
  have BQ := Lib.hid wq.h
  generalize wq.W = w2 at *
  clear u0 u1
  have q1 := (RF.out.below BQ.out RF.out.lt).cell 1
  have q2 := (RF.out.below BQ.out RF.out.lt).cell 3
  have q3 := (RJ.out.below BQ.out RJ.out.lt).cell 4
  simp only [List.getElem?_cons_zero, List.getElem?_cons_succ] at q1 q2 q3
  have u0 := Kl.cell (RF.out.below BQ.out RF.out.lt).lt q1
  have u1 := Kl.cell (RF.out.below BQ.out RF.out.lt).lt q2
  have u2 := Kl.cell (RJ.out.below BQ.out RJ.out.lt).lt q3
  clear q1 q2 q3
  go_wp2_with fail
  refine wp_region_below (by kernel_rfl) (by kernel_rfl) ?_
  repeat (go_big_quiet_step (fail))
  refine wpQuiet_nil ?_
  rintro _ ⟨wq, rfl⟩
  have BQ := Lib.hid (Below.andThen BQ.out wq.h (by have := BQ.out.size; have := RR.out.lt; omega))
  generalize wq.W = w2 at *
  clear u0 u1 u2
  have rJ := RJ.out.below BQ.out RJ.out.lt
  have rF := RF.out.below BQ.out RF.out.lt
  have rR := RR.out.below BQ.out RR.out.lt
  have RF2 := Lib.hid rF
  have RR2 := Lib.hid rR
  have j1 := rJ.cell 1
  have j2 := rJ.cell 2
  have j3 := rJ.cell 3
  have j4 := rJ.cell 4
  have c0 := rF.cell 0
  have c1 := rF.cell 1
  have c2 := rF.cell 2
  have c3 := rF.cell 3
  have z0 := rR.cell 0
  have z1 := rR.cell 1
  have z2 := rR.cell 2
  have z3 := rR.cell 3
  have k0 := frozen_of_row _ (w.heap.size + 1) 0 _ _ rF
  have k1 := frozen_of_row _ (w.heap.size + 1) 1 _ _ rF
  have k2 := frozen_of_row _ (w.heap.size + 1) 2 _ _ rF
  have k3 := frozen_of_row _ (w.heap.size + 1) 3 _ _ rF
  have l0 := frozen_of_row _ (w.heap.size + 1 + 1 + 1) 0 _ _ rR
  have l1 := frozen_of_row _ (w.heap.size + 1 + 1 + 1) 1 _ _ rR
  have l2 := frozen_of_row _ (w.heap.size + 1 + 1 + 1) 2 _ _ rR
  have l3 := frozen_of_row _ (w.heap.size + 1 + 1 + 1) 3 _ _ rR
  simp only [List.getElem?_cons_zero, List.getElem?_cons_succ] at j1 j2 j3 j4 c0 c1 c2 c3 z0 z1 z2 z3
  clear rJ rF rR
  go_wp2_with fail
  all_goals first | (exfalso; omega) | skip
  have hr : Row ((((((w2.setCell ⟨w.heap.size + 1, 1, none⟩ (.int .i64 (f1 - (p3 - f3)))).setCell ⟨w.heap.size + 1, 3, none⟩ (.int .i64 (f3 + (p3 - f3)))).setCell ⟨w.heap.size + 1 + 1 + 1, 0, none⟩ (.int .i64 f0)).setCell ⟨w.heap.size + 1 + 1 + 1, 1, none⟩ (.int .i64 (f1 - (p3 - f3)))).setCell ⟨w.heap.size + 1 + 1 + 1, 2, none⟩ (.int .i64 f2)).setCell ⟨w.heap.size + 1 + 1 + 1, 3, none⟩ (.int .i64 (f3 + (p3 - f3)))) (w.heap.size + 1 + 1 + 1) 77 [.int .i64 f0, .int .i64 (f1 - (p3 - f3)), .int .i64 f2, .int .i64 (f3 + (p3 - f3))] := by
    simpa using ((((((RR2.out.other (1) (.int .i64 (f1 - (p3 - f3))) (g' := w.heap.size + 1) (by omega)).other (3) (.int .i64 (f3 + (p3 - f3))) (g' := w.heap.size + 1) (by omega)).set 0 (.int .i64 f0)).set 1 (.int .i64 (f1 - (p3 - f3)))).set 2 (.int .i64 f2)).set 3 (.int .i64 (f3 + (p3 - f3))))
  have v0 := hr.cell 0
  have v1 := hr.cell 1
  have v2 := hr.cell 2
  have v3 := hr.cell 3
  simp only [List.getElem?_cons_zero, List.getElem?_cons_succ] at v0 v1 v2 v3
  refine bodyPost_ret (v := .agg #[.int .i64 f0, .int .i64 (f1 - (p3 - f3)), .int .i64 f2, .int .i64 (f3 + (p3 - f3))]) (by simp [results, Try.results54, go_sem, v0, v1, v2, v3]) rfl ⟨rfl, ?_⟩
  exact (((((((Below.andThen B0.out BQ.out (Nat.le_refl _)).setCell (p := ⟨w.heap.size + 1, 1, none⟩) (by dsimp only; omega) (.int .i64 (f1 - (p3 - f3)))).setCell (p := ⟨w.heap.size + 1, 3, none⟩) (by dsimp only; omega) (.int .i64 (f3 + (p3 - f3)))).setCell (p := ⟨w.heap.size + 1 + 1 + 1, 0, none⟩) (by dsimp only; omega) (.int .i64 f0)).setCell (p := ⟨w.heap.size + 1 + 1 + 1, 1, none⟩) (by dsimp only; omega) (.int .i64 (f1 - (p3 - f3)))).setCell (p := ⟨w.heap.size + 1 + 1 + 1, 2, none⟩) (by dsimp only; omega) (.int .i64 f2)).setCell (p := ⟨w.heap.size + 1 + 1 + 1, 3, none⟩) (by dsimp only; omega) (.int .i64 (f3 + (p3 - f3))))
set_option maxRecDepth 100000 in
set_option maxHeartbeats 1000000 in
theorem after_2_s (n p0 p1 p2 p3 f0 f1 f2 f3 : Int) (w : World) :
    Calls Try.prog 54 #[.agg #[.int .i64 n, .int .i64 p0, .int .i64 p1, .int .i64 p2, .int .i64 p3], .agg #[.int .i64 f0, .int .i64 f1, .int .i64 f2, .int .i64 f3], .agg #[.int .i64 2, .int .i64 (-1)]] w fun e w' => e = .returned (aggI (afterF [p0, p1, p2, p3] [f0, f1, f2, f3] 2 (-1))) ∧ Below w.heap.size w w' := by
  obtain ⟨V, hV, rJ, rF, rS, rR, hb, hsz⟩ := after_start w [.int .i64 n, .int .i64 p0, .int .i64 p1, .int .i64 p2, .int .i64 p3] [.int .i64 f0, .int .i64 f1, .int .i64 f2, .int .i64 f3] [.int .i64 2, .int .i64 (-1)] [.int .i64 0, .int .i64 0, .int .i64 0, .int .i64 0]
  have FIN : Hid (aggI (afterF [p0, p1, p2, p3] [f0, f1, f2, f3] 2 (-1)) = .agg #[.int .i64 f0, .int .i64 f1, .int .i64 0, .int .i64 f3]) := Lib.hid (by simp [afterF, aggI, encI])
  rw [FIN.out]
  have HV := Lib.hid hV
  have RJ := Lib.hid rJ
  have RF := Lib.hid rF
  have RR := Lib.hid rR
  have B0 := Lib.hid hb
  have s0 := rS.cell 0
  have s1 := rS.cell 1
  simp only [List.getElem?_cons_zero, List.getElem?_cons_succ] at s0 s1
  have u0 := Kl.cell rS.lt s0
  have u1 := Kl.cell rS.lt s1
  clear hV rJ rF rS rR hb hsz s0 s1
  go_enter Try.func54, Try.ntmps54
  go_wp2_with fail
  rw [← HV.out]
  refine wp_region_below (by kernel_rfl) (by kernel_rfl) ?_
  repeat (go_big_quiet_step (fail))
  refine wpQuiet_nil ?_
  rintro _ ⟨wq, rfl⟩
  have BQ := Lib.hid wq.h
  generalize wq.W = w2 at *
  clear u0 u1
  have rJ := RJ.out.below BQ.out RJ.out.lt
  have rF := RF.out.below BQ.out RF.out.lt
  have rR := RR.out.below BQ.out RR.out.lt
  have RF2 := Lib.hid rF
  have RR2 := Lib.hid rR
  have j1 := rJ.cell 1
  have j2 := rJ.cell 2
  have j3 := rJ.cell 3
  have j4 := rJ.cell 4
  have c0 := rF.cell 0
  have c1 := rF.cell 1
  have c2 := rF.cell 2
  have c3 := rF.cell 3
  have z0 := rR.cell 0
  have z1 := rR.cell 1
  have z2 := rR.cell 2
  have z3 := rR.cell 3
  have k0 := frozen_of_row _ (w.heap.size + 1) 0 _ _ rF
  have k1 := frozen_of_row _ (w.heap.size + 1) 1 _ _ rF
  have k2 := frozen_of_row _ (w.heap.size + 1) 2 _ _ rF
  have k3 := frozen_of_row _ (w.heap.size + 1) 3 _ _ rF
  have l0 := frozen_of_row _ (w.heap.size + 1 + 1 + 1) 0 _ _ rR
  have l1 := frozen_of_row _ (w.heap.size + 1 + 1 + 1) 1 _ _ rR
  have l2 := frozen_of_row _ (w.heap.size + 1 + 1 + 1) 2 _ _ rR
  have l3 := frozen_of_row _ (w.heap.size + 1 + 1 + 1) 3 _ _ rR
  simp only [List.getElem?_cons_zero, List.getElem?_cons_succ] at j1 j2 j3 j4 c0 c1 c2 c3 z0 z1 z2 z3
  clear rJ rF rR
  go_wp2_with fail
  have hr : Row (((((w2.setCell ⟨w.heap.size + 1, 2, none⟩ (.int .i64 0)).setCell ⟨w.heap.size + 1 + 1 + 1, 0, none⟩ (.int .i64 f0)).setCell ⟨w.heap.size + 1 + 1 + 1, 1, none⟩ (.int .i64 f1)).setCell ⟨w.heap.size + 1 + 1 + 1, 2, none⟩ (.int .i64 0)).setCell ⟨w.heap.size + 1 + 1 + 1, 3, none⟩ (.int .i64 f3)) (w.heap.size + 1 + 1 + 1) 77 [.int .i64 f0, .int .i64 f1, .int .i64 0, .int .i64 f3] := by
    simpa using (((((RR2.out.other (2) (.int .i64 0) (g' := w.heap.size + 1) (by omega)).set 0 (.int .i64 f0)).set 1 (.int .i64 f1)).set 2 (.int .i64 0)).set 3 (.int .i64 f3))
  have v0 := hr.cell 0
  have v1 := hr.cell 1
  have v2 := hr.cell 2
  have v3 := hr.cell 3
  simp only [List.getElem?_cons_zero, List.getElem?_cons_succ] at v0 v1 v2 v3
  refine bodyPost_ret (v := .agg #[.int .i64 f0, .int .i64 f1, .int .i64 0, .int .i64 f3]) (by simp [results, Try.results54, go_sem, v0, v1, v2, v3]) rfl ⟨rfl, ?_⟩
  exact ((((((Below.andThen B0.out BQ.out (Nat.le_refl _)).setCell (p := ⟨w.heap.size + 1, 2, none⟩) (by dsimp only; omega) (.int .i64 0)).setCell (p := ⟨w.heap.size + 1 + 1 + 1, 0, none⟩) (by dsimp only; omega) (.int .i64 f0)).setCell (p := ⟨w.heap.size + 1 + 1 + 1, 1, none⟩) (by dsimp only; omega) (.int .i64 f1)).setCell (p := ⟨w.heap.size + 1 + 1 + 1, 2, none⟩) (by dsimp only; omega) (.int .i64 0)).setCell (p := ⟨w.heap.size + 1 + 1 + 1, 3, none⟩) (by dsimp only; omega) (.int .i64 f3))
set_option maxRecDepth 100000 in
set_option maxHeartbeats 1000000 in
theorem after_2_0l (n p0 p1 p2 p3 f0 f1 f2 f3 : Int) (hf : 0 ≤ f2 ∧ f2 ≤ 12) (ht : 0 ≤ f0 ∧ f0 ≤ p0) (hp : p0 ≤ 12) (hmin : f2 ≤ p0 - f0) (w : World) :
    Calls Try.prog 54 #[.agg #[.int .i64 n, .int .i64 p0, .int .i64 p1, .int .i64 p2, .int .i64 p3], .agg #[.int .i64 f0, .int .i64 f1, .int .i64 f2, .int .i64 f3], .agg #[.int .i64 2, .int .i64 0]] w fun e w' => e = .returned (aggI (afterF [p0, p1, p2, p3] [f0, f1, f2, f3] 2 0)) ∧ Below w.heap.size w w' := by
  obtain ⟨V, hV, rJ, rF, rS, rR, hb, hsz⟩ := after_start w [.int .i64 n, .int .i64 p0, .int .i64 p1, .int .i64 p2, .int .i64 p3] [.int .i64 f0, .int .i64 f1, .int .i64 f2, .int .i64 f3] [.int .i64 2, .int .i64 0] [.int .i64 0, .int .i64 0, .int .i64 0, .int .i64 0]
  have e1 : IntKind.i64.wrap (p0 - f0) = p0 - f0 := i64_of _ (by omega) (by omega)
  have e2 : IntKind.i64.wrap (f2 - f2) = f2 - f2 := i64_of _ (by omega) (by omega)
  have e3 : IntKind.i64.wrap (f0 + f2) = f0 + f2 := i64_of _ (by omega) (by omega)
  have hm : min f2 (p0 - f0) = f2 := by omega
  have FIN : Hid (aggI (afterF [p0, p1, p2, p3] [f0, f1, f2, f3] 2 0) = .agg #[.int .i64 (f0 + f2), .int .i64 f1, .int .i64 0, .int .i64 f3]) := Lib.hid (by simp [afterF, aggI, encI, hm])
  rw [FIN.out]
  have HV := Lib.hid hV
  have RJ := Lib.hid rJ
  have RF := Lib.hid rF
  have RR := Lib.hid rR
  have B0 := Lib.hid hb
  have s0 := rS.cell 0
  have s1 := rS.cell 1
  simp only [List.getElem?_cons_zero, List.getElem?_cons_succ] at s0 s1
  have u0 := Kl.cell rS.lt s0
  have u1 := Kl.cell rS.lt s1
  clear hV rJ rF rS rR hb hsz s0 s1
  go_enter Try.func54, Try.ntmps54
  go_wp2_with fail
  rw [← HV.out]
  refine wp_region_below (by kernel_rfl) (by kernel_rfl) ?_
  repeat (go_big_quiet_step (fail))
  refine wpQuiet_nil ?_
  rintro _ ⟨wq, rfl⟩
  have BQ := Lib.hid wq.h
  generalize wq.W = w2 at *
  clear u0 u1
  have q1 := (RF.out.below BQ.out RF.out.lt).cell 2
  have q2 := (RF.out.below BQ.out RF.out.lt).cell 0
  have q3 := (RJ.out.below BQ.out RJ.out.lt).cell 1
  simp only [List.getElem?_cons_zero, List.getElem?_cons_succ] at q1 q2 q3
  have u0 := Kl.cell (RF.out.below BQ.out RF.out.lt).lt q1
  have u1 := Kl.cell (RF.out.below BQ.out RF.out.lt).lt q2
  have u2 := Kl.cell (RJ.out.below BQ.out RJ.out.lt).lt q3
  clear q1 q2 q3
  go_wp2_with fail
  refine wp_region_below (by kernel_rfl) (by kernel_rfl) ?_
  repeat (go_big_quiet_step (fail))
  refine wpQuiet_nil ?_
  rintro _ ⟨wq, rfl⟩
  have BQ := Lib.hid (Below.andThen BQ.out wq.h (by have := BQ.out.size; have := RR.out.lt; omega))
  generalize wq.W = w2 at *
  clear u0 u1 u2
  have rJ := RJ.out.below BQ.out RJ.out.lt
  have rF := RF.out.below BQ.out RF.out.lt
  have rR := RR.out.below BQ.out RR.out.lt
  have RF2 := Lib.hid rF
  have RR2 := Lib.hid rR
  have j1 := rJ.cell 1
  have j2 := rJ.cell 2
  have j3 := rJ.cell 3
  have j4 := rJ.cell 4
  have c0 := rF.cell 0
  have c1 := rF.cell 1
  have c2 := rF.cell 2
  have c3 := rF.cell 3
  have z0 := rR.cell 0
  have z1 := rR.cell 1
  have z2 := rR.cell 2
  have z3 := rR.cell 3
  have k0 := frozen_of_row _ (w.heap.size + 1) 0 _ _ rF
  have k1 := frozen_of_row _ (w.heap.size + 1) 1 _ _ rF
  have k2 := frozen_of_row _ (w.heap.size + 1) 2 _ _ rF
  have k3 := frozen_of_row _ (w.heap.size + 1) 3 _ _ rF
  have l0 := frozen_of_row _ (w.heap.size + 1 + 1 + 1) 0 _ _ rR
  have l1 := frozen_of_row _ (w.heap.size + 1 + 1 + 1) 1 _ _ rR
  have l2 := frozen_of_row _ (w.heap.size + 1 + 1 + 1) 2 _ _ rR
  have l3 := frozen_of_row _ (w.heap.size + 1 + 1 + 1) 3 _ _ rR
  simp only [List.getElem?_cons_zero, List.getElem?_cons_succ] at j1 j2 j3 j4 c0 c1 c2 c3 z0 z1 z2 z3
  clear rJ rF rR
  go_wp2_with fail
  all_goals first | (exfalso; omega) | skip
  have hr : Row ((((((w2.setCell ⟨w.heap.size + 1, 2, none⟩ (.int .i64 0)).setCell ⟨w.heap.size + 1, 0, none⟩ (.int .i64 (f0 + f2))).setCell ⟨w.heap.size + 1 + 1 + 1, 0, none⟩ (.int .i64 (f0 + f2))).setCell ⟨w.heap.size + 1 + 1 + 1, 1, none⟩ (.int .i64 f1)).setCell ⟨w.heap.size + 1 + 1 + 1, 2, none⟩ (.int .i64 0)).setCell ⟨w.heap.size + 1 + 1 + 1, 3, none⟩ (.int .i64 f3)) (w.heap.size + 1 + 1 + 1) 77 [.int .i64 (f0 + f2), .int .i64 f1, .int .i64 0, .int .i64 f3] := by
    simpa using ((((((RR2.out.other (2) (.int .i64 0) (g' := w.heap.size + 1) (by omega)).other (0) (.int .i64 (f0 + f2)) (g' := w.heap.size + 1) (by omega)).set 0 (.int .i64 (f0 + f2))).set 1 (.int .i64 f1)).set 2 (.int .i64 0)).set 3 (.int .i64 f3))
  have v0 := hr.cell 0
  have v1 := hr.cell 1
  have v2 := hr.cell 2
  have v3 := hr.cell 3
  simp only [List.getElem?_cons_zero, List.getElem?_cons_succ] at v0 v1 v2 v3
  refine bodyPost_ret (v := .agg #[.int .i64 (f0 + f2), .int .i64 f1, .int .i64 0, .int .i64 f3]) (by simp [results, Try.results54, go_sem, v0, v1, v2, v3]) rfl ⟨rfl, ?_⟩
  exact (((((((Below.andThen B0.out BQ.out (Nat.le_refl _)).setCell (p := ⟨w.heap.size + 1, 2, none⟩) (by dsimp only; omega) (.int .i64 0)).setCell (p := ⟨w.heap.size + 1, 0, none⟩) (by dsimp only; omega) (.int .i64 (f0 + f2))).setCell (p := ⟨w.heap.size + 1 + 1 + 1, 0, none⟩) (by dsimp only; omega) (.int .i64 (f0 + f2))).setCell (p := ⟨w.heap.size + 1 + 1 + 1, 1, none⟩) (by dsimp only; omega) (.int .i64 f1)).setCell (p := ⟨w.heap.size + 1 + 1 + 1, 2, none⟩) (by dsimp only; omega) (.int .i64 0)).setCell (p := ⟨w.heap.size + 1 + 1 + 1, 3, none⟩) (by dsimp only; omega) (.int .i64 f3))
set_option maxRecDepth 100000 in
set_option maxHeartbeats 1000000 in
theorem after_2_0h (n p0 p1 p2 p3 f0 f1 f2 f3 : Int) (hf : 0 ≤ f2 ∧ f2 ≤ 12) (ht : 0 ≤ f0 ∧ f0 ≤ p0) (hp : p0 ≤ 12) (hmin : p0 - f0 < f2) (w : World) :
    Calls Try.prog 54 #[.agg #[.int .i64 n, .int .i64 p0, .int .i64 p1, .int .i64 p2, .int .i64 p3], .agg #[.int .i64 f0, .int .i64 f1, .int .i64 f2, .int .i64 f3], .agg #[.int .i64 2, .int .i64 0]] w fun e w' => e = .returned (aggI (afterF [p0, p1, p2, p3] [f0, f1, f2, f3] 2 0)) ∧ Below w.heap.size w w' := by
  obtain ⟨V, hV, rJ, rF, rS, rR, hb, hsz⟩ := after_start w [.int .i64 n, .int .i64 p0, .int .i64 p1, .int .i64 p2, .int .i64 p3] [.int .i64 f0, .int .i64 f1, .int .i64 f2, .int .i64 f3] [.int .i64 2, .int .i64 0] [.int .i64 0, .int .i64 0, .int .i64 0, .int .i64 0]
  have e1 : IntKind.i64.wrap (p0 - f0) = p0 - f0 := i64_of _ (by omega) (by omega)
  have e2 : IntKind.i64.wrap (f2 - (p0 - f0)) = f2 - (p0 - f0) := i64_of _ (by omega) (by omega)
  have e3 : IntKind.i64.wrap (f0 + (p0 - f0)) = f0 + (p0 - f0) := i64_of _ (by omega) (by omega)
  have hm : min f2 (p0 - f0) = (p0 - f0) := by omega
  have FIN : Hid (aggI (afterF [p0, p1, p2, p3] [f0, f1, f2, f3] 2 0) = .agg #[.int .i64 (f0 + (p0 - f0)), .int .i64 f1, .int .i64 (f2 - (p0 - f0)), .int .i64 f3]) := Lib.hid (by simp [afterF, aggI, encI, hm])
  rw [FIN.out]
  have HV := Lib.hid hV
  have RJ := Lib.hid rJ
  have RF := Lib.hid rF
  have RR := Lib.hid rR
  have B0 := Lib.hid hb
  have s0 := rS.cell 0
  have s1 := rS.cell 1
  simp only [List.getElem?_cons_zero, List.getElem?_cons_succ] at s0 s1
  have u0 := Kl.cell rS.lt s0
  have u1 := Kl.cell rS.lt s1
  clear hV rJ rF rS rR hb hsz s0 s1
  go_enter Try.func54, Try.ntmps54
  go_wp2_with fail
  rw [← HV.out]
  refine wp_region_below (by kernel_rfl) (by kernel_rfl) ?_
  repeat (go_big_quiet_step (fail))
  refine wpQuiet_nil ?_
  rintro _ ⟨wq, rfl⟩
  have BQ := Lib.hid wq.h
  generalize wq.W = w2 at *
  clear u0 u1
  have q1 := (RF.out.below BQ.out RF.out.lt).cell 2
  have q2 := (RF.out.below BQ.out RF.out.lt).cell 0
  have q3 := (RJ.out.below BQ.out RJ.out.lt).cell 1
  simp only [List.getElem?_cons_zero, List.getElem?_cons_succ] at q1 q2 q3
  have u0 := Kl.cell (RF.out.below BQ.out RF.out.lt).lt q1
  have u1 := Kl.cell (RF.out.below BQ.out RF.out.lt).lt q2
  have u2 := Kl.cell (RJ.out.below BQ.out RJ.out.lt).lt q3
  clear q1 q2 q3
  go_wp2_with fail
  refine wp_region_below (by kernel_rfl) (by kernel_rfl) ?_
  repeat (go_big_quiet_step (fail))
  refine wpQuiet_nil ?_
  rintro _ ⟨wq, rfl⟩
  have BQ := Lib.hid (Below.andThen BQ.out wq.h (by have := BQ.out.size; have := RR.out.lt; omega))
  generalize wq.W = w2 at *
  clear u0 u1 u2
  have rJ := RJ.out.below BQ.out RJ.out.lt
  have rF := RF.out.below BQ.out RF.out.lt
  have rR := RR.out.below BQ.out RR.out.lt
  have RF2 := Lib.hid rF
  have RR2 := Lib.hid rR
  have j1 := rJ.cell 1
  have j2 := rJ.cell 2
  have j3 := rJ.cell 3
  have j4 := rJ.cell 4
  have c0 := rF.cell 0
  have c1 := rF.cell 1
  have c2 := rF.cell 2
  have c3 := rF.cell 3
  have z0 := rR.cell 0
  have z1 := rR.cell 1
  have z2 := rR.cell 2
  have z3 := rR.cell 3
  have k0 := frozen_of_row _ (w.heap.size + 1) 0 _ _ rF
  have k1 := frozen_of_row _ (w.heap.size + 1) 1 _ _ rF
  have k2 := frozen_of_row _ (w.heap.size + 1) 2 _ _ rF
  have k3 := frozen_of_row _ (w.heap.size + 1) 3 _ _ rF
  have l0 := frozen_of_row _ (w.heap.size + 1 + 1 + 1) 0 _ _ rR
  have l1 := frozen_of_row _ (w.heap.size + 1 + 1 + 1) 1 _ _ rR
  have l2 := frozen_of_row _ (w.heap.size + 1 + 1 + 1) 2 _ _ rR
  have l3 := frozen_of_row _ (w.heap.size + 1 + 1 + 1) 3 _ _ rR
  simp only [List.getElem?_cons_zero, List.getElem?_cons_succ] at j1 j2 j3 j4 c0 c1 c2 c3 z0 z1 z2 z3
  clear rJ rF rR
  go_wp2_with fail
  all_goals first | (exfalso; omega) | skip
  have hr : Row ((((((w2.setCell ⟨w.heap.size + 1, 2, none⟩ (.int .i64 (f2 - (p0 - f0)))).setCell ⟨w.heap.size + 1, 0, none⟩ (.int .i64 (f0 + (p0 - f0)))).setCell ⟨w.heap.size + 1 + 1 + 1, 0, none⟩ (.int .i64 (f0 + (p0 - f0)))).setCell ⟨w.heap.size + 1 + 1 + 1, 1, none⟩ (.int .i64 f1)).setCell ⟨w.heap.size + 1 + 1 + 1, 2, none⟩ (.int .i64 (f2 - (p0 - f0)))).setCell ⟨w.heap.size + 1 + 1 + 1, 3, none⟩ (.int .i64 f3)) (w.heap.size + 1 + 1 + 1) 77 [.int .i64 (f0 + (p0 - f0)), .int .i64 f1, .int .i64 (f2 - (p0 - f0)), .int .i64 f3] := by
    simpa using ((((((RR2.out.other (2) (.int .i64 (f2 - (p0 - f0))) (g' := w.heap.size + 1) (by omega)).other (0) (.int .i64 (f0 + (p0 - f0))) (g' := w.heap.size + 1) (by omega)).set 0 (.int .i64 (f0 + (p0 - f0)))).set 1 (.int .i64 f1)).set 2 (.int .i64 (f2 - (p0 - f0)))).set 3 (.int .i64 f3))
  have v0 := hr.cell 0
  have v1 := hr.cell 1
  have v2 := hr.cell 2
  have v3 := hr.cell 3
  simp only [List.getElem?_cons_zero, List.getElem?_cons_succ] at v0 v1 v2 v3
  refine bodyPost_ret (v := .agg #[.int .i64 (f0 + (p0 - f0)), .int .i64 f1, .int .i64 (f2 - (p0 - f0)), .int .i64 f3]) (by simp [results, Try.results54, go_sem, v0, v1, v2, v3]) rfl ⟨rfl, ?_⟩
  exact (((((((Below.andThen B0.out BQ.out (Nat.le_refl _)).setCell (p := ⟨w.heap.size + 1, 2, none⟩) (by dsimp only; omega) (.int .i64 (f2 - (p0 - f0)))).setCell (p := ⟨w.heap.size + 1, 0, none⟩) (by dsimp only; omega) (.int .i64 (f0 + (p0 - f0)))).setCell (p := ⟨w.heap.size + 1 + 1 + 1, 0, none⟩) (by dsimp only; omega) (.int .i64 (f0 + (p0 - f0)))).setCell (p := ⟨w.heap.size + 1 + 1 + 1, 1, none⟩) (by dsimp only; omega) (.int .i64 f1)).setCell (p := ⟨w.heap.size + 1 + 1 + 1, 2, none⟩) (by dsimp only; omega) (.int .i64 (f2 - (p0 - f0)))).setCell (p := ⟨w.heap.size + 1 + 1 + 1, 3, none⟩) (by dsimp only; omega) (.int .i64 f3))
set_option maxRecDepth 100000 in
set_option maxHeartbeats 1000000 in
theorem after_2_1l (n p0 p1 p2 p3 f0 f1 f2 f3 : Int) (hf : 0 ≤ f2 ∧ f2 ≤ 12) (ht : 0 ≤ f1 ∧ f1 ≤ p1) (hp : p1 ≤ 12) (hmin : f2 ≤ p1 - f1) (w : World) :
    Calls Try.prog 54 #[.agg #[.int .i64 n, .int .i64 p0, .int .i64 p1, .int .i64 p2, .int .i64 p3], .agg #[.int .i64 f0, .int .i64 f1, .int .i64 f2, .int .i64 f3], .agg #[.int .i64 2, .int .i64 1]] w fun e w' => e = .returned (aggI (afterF [p0, p1, p2, p3] [f0, f1, f2, f3] 2 1)) ∧ Below w.heap.size w w' := by
  obtain ⟨V, hV, rJ, rF, rS, rR, hb, hsz⟩ := after_start w [.int .i64 n, .int .i64 p0, .int .i64 p1, .int .i64 p2, .int .i64 p3] [.int .i64 f0, .int .i64 f1, .int .i64 f2, .int .i64 f3] [.int .i64 2, .int .i64 1] [.int .i64 0, .int .i64 0, .int .i64 0, .int .i64 0]
  have e1 : IntKind.i64.wrap (p1 - f1) = p1 - f1 := i64_of _ (by omega) (by omega)
  have e2 : IntKind.i64.wrap (f2 - f2) = f2 - f2 := i64_of _ (by omega) (by omega)
  have e3 : IntKind.i64.wrap (f1 + f2) = f1 + f2 := i64_of _ (by omega) (by omega)
  have hm : min f2 (p1 - f1) = f2 := by omega
  have FIN : Hid (aggI (afterF [p0, p1, p2, p3] [f0, f1, f2, f3] 2 1) = .agg #[.int .i64 f0, .int .i64 (f1 + f2), .int .i64 0, .int .i64 f3]) := Lib.hid (by simp [afterF, aggI, encI, hm])
  rw [FIN.out]
  have HV := Lib.hid hV
  have RJ := Lib.hid rJ
  have RF := Lib.hid rF
  have RR := Lib.hid rR
  have B0 := Lib.hid hb
  have s0 := rS.cell 0
  have s1 := rS.cell 1
  simp only [List.getElem?_cons_zero, List.getElem?_cons_succ] at s0 s1
  have u0 := Kl.cell rS.lt s0
  have u1 := Kl.cell rS.lt s1
  clear hV rJ rF rS rR hb hsz s0 s1
  go_enter Try.func54, Try.ntmps54
  go_wp2_with fail
  rw [← HV.out]
  refine wp_region_below (by kernel_rfl) (by kernel_rfl) ?_
  repeat (go_big_quiet_step (fail))
  refine wpQuiet_nil ?_
  rintro _ ⟨wq, rfl⟩
  have BQ := Lib.hid wq.h
  generalize wq.W = w2 at *
  clear u0 u1
  have q1 := (RF.out.below BQ.out RF.out.lt).cell 2
  have q2 := (RF.out.below BQ.out RF.out.lt).cell 1
  have q3 := (RJ.out.below BQ.out RJ.out.lt).cell 2
  simp only [List.getElem?_cons_zero, List.getElem?_cons_succ] at q1 q2 q3
  have u0 := Kl.cell (RF.out.below BQ.out RF.out.lt).lt q1
  have u1 := Kl.cell (RF.out.below BQ.out RF.out.lt).lt q2
  have u2 := Kl.cell (RJ.out.below BQ.out RJ.out.lt).lt q3
  clear q1 q2 q3
  go_wp2_with fail
  refine wp_region_below (by kernel_rfl) (by kernel_rfl) ?_
  repeat (go_big_quiet_step (fail))
  refine wpQuiet_nil ?_
  rintro _ ⟨wq, rfl⟩
  have BQ := Lib.hid (Below.andThen BQ.out wq.h (by have := BQ.out.size; have := RR.out.lt; omega))
  generalize wq.W = w2 at *
  clear u0 u1 u2
  have rJ := RJ.out.below BQ.out RJ.out.lt
  have rF := RF.out.below BQ.out RF.out.lt
  have rR := RR.out.below BQ.out RR.out.lt
  have RF2 := Lib.hid rF
  have RR2 := Lib.hid rR
  have j1 := rJ.cell 1
  have j2 := rJ.cell 2
  have j3 := rJ.cell 3
  have j4 := rJ.cell 4
  have c0 := rF.cell 0
  have c1 := rF.cell 1
  have c2 := rF.cell 2
  have c3 := rF.cell 3
  have z0 := rR.cell 0
  have z1 := rR.cell 1
  have z2 := rR.cell 2
  have z3 := rR.cell 3
  have k0 := frozen_of_row _ (w.heap.size + 1) 0 _ _ rF
  have k1 := frozen_of_row _ (w.heap.size + 1) 1 _ _ rF
  have k2 := frozen_of_row _ (w.heap.size + 1) 2 _ _ rF
  have k3 := frozen_of_row _ (w.heap.size + 1) 3 _ _ rF
  have l0 := frozen_of_row _ (w.heap.size + 1 + 1 + 1) 0 _ _ rR
  have l1 := frozen_of_row _ (w.heap.size + 1 + 1 + 1) 1 _ _ rR
  have l2 := frozen_of_row _ (w.heap.size + 1 + 1 + 1) 2 _ _ rR
  have l3 := frozen_of_row _ (w.heap.size + 1 + 1 + 1) 3 _ _ rR
  simp only [List.getElem?_cons_zero, List.getElem?_cons_succ] at j1 j2 j3 j4 c0 c1 c2 c3 z0 z1 z2 z3
  clear rJ rF rR
  go_wp2_with fail
  all_goals first | (exfalso; omega) | skip
  have hr : Row ((((((w2.setCell ⟨w.heap.size + 1, 2, none⟩ (.int .i64 0)).setCell ⟨w.heap.size + 1, 1, none⟩ (.int .i64 (f1 + f2))).setCell ⟨w.heap.size + 1 + 1 + 1, 0, none⟩ (.int .i64 f0)).setCell ⟨w.heap.size + 1 + 1 + 1, 1, none⟩ (.int .i64 (f1 + f2))).setCell ⟨w.heap.size + 1 + 1 + 1, 2, none⟩ (.int .i64 0)).setCell ⟨w.heap.size + 1 + 1 + 1, 3, none⟩ (.int .i64 f3)) (w.heap.size + 1 + 1 + 1) 77 [.int .i64 f0, .int .i64 (f1 + f2), .int .i64 0, .int .i64 f3] := by
    simpa using ((((((RR2.out.other (2) (.int .i64 0) (g' := w.heap.size + 1) (by omega)).other (1) (.int .i64 (f1 + f2)) (g' := w.heap.size + 1) (by omega)).set 0 (.int .i64 f0)).set 1 (.int .i64 (f1 + f2))).set 2 (.int .i64 0)).set 3 (.int .i64 f3))
  have v0 := hr.cell 0
  have v1 := hr.cell 1
  have v2 := hr.cell 2
  have v3 := hr.cell 3
  simp only [List.getElem?_cons_zero, List.getElem?_cons_succ] at v0 v1 v2 v3
  refine bodyPost_ret (v := .agg #[.int .i64 f0, .int .i64 (f1 + f2), .int .i64 0, .int .i64 f3]) (by simp [results, Try.results54, go_sem, v0, v1, v2, v3]) rfl ⟨rfl, ?_⟩
  exact (((((((Below.andThen B0.out BQ.out (Nat.le_refl _)).setCell (p := ⟨w.heap.size + 1, 2, none⟩) (by dsimp only; omega) (.int .i64 0)).setCell (p := ⟨w.heap.size + 1, 1, none⟩) (by dsimp only; omega) (.int .i64 (f1 + f2))).setCell (p := ⟨w.heap.size + 1 + 1 + 1, 0, none⟩) (by dsimp only; omega) (.int .i64 f0)).setCell (p := ⟨w.heap.size + 1 + 1 + 1, 1, none⟩) (by dsimp only; omega) (.int .i64 (f1 + f2))).setCell (p := ⟨w.heap.size + 1 + 1 + 1, 2, none⟩) (by dsimp only; omega) (.int .i64 0)).setCell (p := ⟨w.heap.size + 1 + 1 + 1, 3, none⟩) (by dsimp only; omega) (.int .i64 f3))
set_option maxRecDepth 100000 in
set_option maxHeartbeats 1000000 in
theorem after_2_1h (n p0 p1 p2 p3 f0 f1 f2 f3 : Int) (hf : 0 ≤ f2 ∧ f2 ≤ 12) (ht : 0 ≤ f1 ∧ f1 ≤ p1) (hp : p1 ≤ 12) (hmin : p1 - f1 < f2) (w : World) :
    Calls Try.prog 54 #[.agg #[.int .i64 n, .int .i64 p0, .int .i64 p1, .int .i64 p2, .int .i64 p3], .agg #[.int .i64 f0, .int .i64 f1, .int .i64 f2, .int .i64 f3], .agg #[.int .i64 2, .int .i64 1]] w fun e w' => e = .returned (aggI (afterF [p0, p1, p2, p3] [f0, f1, f2, f3] 2 1)) ∧ Below w.heap.size w w' := by
  obtain ⟨V, hV, rJ, rF, rS, rR, hb, hsz⟩ := after_start w [.int .i64 n, .int .i64 p0, .int .i64 p1, .int .i64 p2, .int .i64 p3] [.int .i64 f0, .int .i64 f1, .int .i64 f2, .int .i64 f3] [.int .i64 2, .int .i64 1] [.int .i64 0, .int .i64 0, .int .i64 0, .int .i64 0]
  have e1 : IntKind.i64.wrap (p1 - f1) = p1 - f1 := i64_of _ (by omega) (by omega)
  have e2 : IntKind.i64.wrap (f2 - (p1 - f1)) = f2 - (p1 - f1) := i64_of _ (by omega) (by omega)
  have e3 : IntKind.i64.wrap (f1 + (p1 - f1)) = f1 + (p1 - f1) := i64_of _ (by omega) (by omega)
  have hm : min f2 (p1 - f1) = (p1 - f1) := by omega
  have FIN : Hid (aggI (afterF [p0, p1, p2, p3] [f0, f1, f2, f3] 2 1) = .agg #[.int .i64 f0, .int .i64 (f1 + (p1 - f1)), .int .i64 (f2 - (p1 - f1)), .int .i64 f3]) := Lib.hid (by simp [afterF, aggI, encI, hm])
  rw [FIN.out]
  have HV := Lib.hid hV
  have RJ := Lib.hid rJ
  have RF := Lib.hid rF
  have RR := Lib.hid rR
  have B0 := Lib.hid hb
  have s0 := rS.cell 0
  have s1 := rS.cell 1
  simp only [List.getElem?_cons_zero, List.getElem?_cons_succ] at s0 s1
  have u0 := Kl.cell rS.lt s0
  have u1 := Kl.cell rS.lt s1
  clear hV rJ rF rS rR hb hsz s0 s1
  go_enter Try.func54, Try.ntmps54
  go_wp2_with fail
  rw [← HV.out]
  refine wp_region_below (by kernel_rfl) (by kernel_rfl) ?_
  repeat (go_big_quiet_step (fail))
  refine wpQuiet_nil ?_
  rintro _ ⟨wq, rfl⟩
  have BQ := Lib.hid wq.h
  generalize wq.W = w2 at *
  clear u0 u1
  have q1 := (RF.out.below BQ.out RF.out.lt).cell 2
  have q2 := (RF.out.below BQ.out RF.out.lt).cell 1
  have q3 := (RJ.out.below BQ.out RJ.out.lt).cell 2
  simp only [List.getElem?_cons_zero, List.getElem?_cons_succ] at q1 q2 q3
  have u0 := Kl.cell (RF.out.below BQ.out RF.out.lt).lt q1
  have u1 := Kl.cell (RF.out.below BQ.out RF.out.lt).lt q2
  have u2 := Kl.cell (RJ.out.below BQ.out RJ.out.lt).lt q3
  clear q1 q2 q3
  go_wp2_with fail
  refine wp_region_below (by kernel_rfl) (by kernel_rfl) ?_
  repeat (go_big_quiet_step (fail))
  refine wpQuiet_nil ?_
  rintro _ ⟨wq, rfl⟩
  have BQ := Lib.hid (Below.andThen BQ.out wq.h (by have := BQ.out.size; have := RR.out.lt; omega))
  generalize wq.W = w2 at *
  clear u0 u1 u2
  have rJ := RJ.out.below BQ.out RJ.out.lt
  have rF := RF.out.below BQ.out RF.out.lt
  have rR := RR.out.below BQ.out RR.out.lt
  have RF2 := Lib.hid rF
  have RR2 := Lib.hid rR
  have j1 := rJ.cell 1
  have j2 := rJ.cell 2
  have j3 := rJ.cell 3
  have j4 := rJ.cell 4
  have c0 := rF.cell 0
  have c1 := rF.cell 1
  have c2 := rF.cell 2
  have c3 := rF.cell 3
  have z0 := rR.cell 0
  have z1 := rR.cell 1
  have z2 := rR.cell 2
  have z3 := rR.cell 3
  have k0 := frozen_of_row _ (w.heap.size + 1) 0 _ _ rF
  have k1 := frozen_of_row _ (w.heap.size + 1) 1 _ _ rF
  have k2 := frozen_of_row _ (w.heap.size + 1) 2 _ _ rF
  have k3 := frozen_of_row _ (w.heap.size + 1) 3 _ _ rF
  have l0 := frozen_of_row _ (w.heap.size + 1 + 1 + 1) 0 _ _ rR
  have l1 := frozen_of_row _ (w.heap.size + 1 + 1 + 1) 1 _ _ rR
  have l2 := frozen_of_row _ (w.heap.size + 1 + 1 + 1) 2 _ _ rR
  have l3 := frozen_of_row _ (w.heap.size + 1 + 1 + 1) 3 _ _ rR
  simp only [List.getElem?_cons_zero, List.getElem?_cons_succ] at j1 j2 j3 j4 c0 c1 c2 c3 z0 z1 z2 z3
  clear rJ rF rR
  go_wp2_with fail
  all_goals first | (exfalso; omega) | skip
  have hr : Row ((((((w2.setCell ⟨w.heap.size + 1, 2, none⟩ (.int .i64 (f2 - (p1 - f1)))).setCell ⟨w.heap.size + 1, 1, none⟩ (.int .i64 (f1 + (p1 - f1)))).setCell ⟨w.heap.size + 1 + 1 + 1, 0, none⟩ (.int .i64 f0)).setCell ⟨w.heap.size + 1 + 1 + 1, 1, none⟩ (.int .i64 (f1 + (p1 - f1)))).setCell ⟨w.heap.size + 1 + 1 + 1, 2, none⟩ (.int .i64 (f2 - (p1 - f1)))).setCell ⟨w.heap.size + 1 + 1 + 1, 3, none⟩ (.int .i64 f3)) (w.heap.size + 1 + 1 + 1) 77 [.int .i64 f0, .int .i64 (f1 + (p1 - f1)), .int .i64 (f2 - (p1 - f1)), .int .i64 f3] := by
    simpa using ((((((RR2.out.other (2) (.int .i64 (f2 - (p1 - f1))) (g' := w.heap.size + 1) (by omega)).other (1) (.int .i64 (f1 + (p1 - f1))) (g' := w.heap.size + 1) (by omega)).set 0 (.int .i64 f0)).set 1 (.int .i64 (f1 + (p1 - f1)))).set 2 (.int .i64 (f2 - (p1 - f1)))).set 3 (.int .i64 f3))
  have v0 := hr.cell 0
  have v1 := hr.cell 1
  have v2 := hr.cell 2
  have v3 := hr.cell 3
  simp only [List.getElem?_cons_zero, List.getElem?_cons_succ] at v0 v1 v2 v3
  refine bodyPost_ret (v := .agg #[.int .i64 f0, .int .i64 (f1 + (p1 - f1)), .int .i64 (f2 - (p1 - f1)), .int .i64 f3]) (by simp [results, Try.results54, go_sem, v0, v1, v2, v3]) rfl ⟨rfl, ?_⟩
  exact (((((((Below.andThen B0.out BQ.out (Nat.le_refl _)).setCell (p := ⟨w.heap.size + 1, 2, none⟩) (by dsimp only; omega) (.int .i64 (f2 - (p1 - f1)))).setCell (p := ⟨w.heap.size + 1, 1, none⟩) (by dsimp only; omega) (.int .i64 (f1 + (p1 - f1)))).setCell (p := ⟨w.heap.size + 1 + 1 + 1, 0, none⟩) (by dsimp only; omega) (.int .i64 f0)).setCell (p := ⟨w.heap.size + 1 + 1 + 1, 1, none⟩) (by dsimp only; omega) (.int .i64 (f1 + (p1 - f1)))).setCell (p := ⟨w.heap.size + 1 + 1 + 1, 2, none⟩) (by dsimp only; omega) (.int .i64 (f2 - (p1 - f1)))).setCell (p := ⟨w.heap.size + 1 + 1 + 1, 3, none⟩) (by dsimp only; omega) (.int .i64 f3))
set_option maxRecDepth 100000 in
set_option maxHeartbeats 1000000 in
theorem after_2_3l (n p0 p1 p2 p3 f0 f1 f2 f3 : Int) (hf : 0 ≤ f2 ∧ f2 ≤ 12) (ht : 0 ≤ f3 ∧ f3 ≤ p3) (hp : p3 ≤ 12) (hmin : f2 ≤ p3 - f3) (w : World) :
    Calls Try.prog 54 #[.agg #[.int .i64 n, .int .i64 p0, .int .i64 p1, .int .i64 p2, .int .i64 p3], .agg #[.int .i64 f0, .int .i64 f1, .int .i64 f2, .int .i64 f3], .agg #[.int .i64 2, .int .i64 3]] w fun e w' => e = .returned (aggI (afterF [p0, p1, p2, p3] [f0, f1, f2, f3] 2 3)) ∧ Below w.heap.size w w' := by
  obtain ⟨V, hV, rJ, rF, rS, rR, hb, hsz⟩ := after_start w [.int .i64 n, .int .i64 p0, .int .i64 p1, .int .i64 p2, .int .i64 p3] [.int .i64 f0, .int .i64 f1, .int .i64 f2, .int .i64 f3] [.int .i64 2, .int .i64 3] [.int .i64 0, .int .i64 0, .int .i64 0, .int .i64 0]
  have e1 : IntKind.i64.wrap (p3 - f3) = p3 - f3 := i64_of _ (by omega) (by omega)
  have e2 : IntKind.i64.wrap (f2 - f2) = f2 - f2 := i64_of _ (by omega) (by omega)
  have e3 : IntKind.i64.wrap (f3 + f2) = f3 + f2 := i64_of _ (by omega) (by omega)
  have hm : min f2 (p3 - f3) = f2 := by omega
  have FIN : Hid (aggI (afterF [p0, p1, p2, p3] [f0, f1, f2, f3] 2 3) = .agg #[.int .i64 f0, .int .i64 f1, .int .i64 0, .int .i64 (f3 + f2)]) := Lib.hid (by simp [afterF, aggI, encI, hm])
  rw [FIN.out]
  have HV := Lib.hid hV
  have RJ := Lib.hid rJ
  have RF := Lib.hid rF
  have RR := Lib.hid rR
  have B0 := Lib.hid hb
  have s0 := rS.cell 0
  have s1 := rS.cell 1
  simp only [List.getElem?_cons_zero, List.getElem?_cons_succ] at s0 s1
  have u0 := Kl.cell rS.lt s0
  have u1 := Kl.cell rS.lt s1
  clear hV rJ rF rS rR hb hsz s0 s1
  go_enter Try.func54, Try.ntmps54
  go_wp2_with fail
  rw [← HV.out]
  refine wp_region_below (by kernel_rfl) (by kernel_rfl) ?_
  repeat (go_big_quiet_step (fail))
  refine wpQuiet_nil ?_
  rintro _ ⟨wq, rfl⟩
  have BQ := Lib.hid wq.h
  generalize wq.W = w2 at *
  clear u0 u1
  have q1 := (RF.out.below BQ.out RF.out.lt).cell 2
  have q2 := (RF.out.below BQ.out RF.out.lt).cell 3
  have q3 := (RJ.out.below BQ.out RJ.out.lt).cell 4
  simp only [List.getElem?_cons_zero, List.getElem?_cons_succ] at q1 q2 q3
  have u0 := Kl.cell (RF.out.below BQ.out RF.out.lt).lt q1
  have u1 := Kl.cell (RF.out.below BQ.out RF.out.lt).lt q2
  have u2 := Kl.cell (RJ.out.below BQ.out RJ.out.lt).lt q3
  clear q1 q2 q3
  go_wp2_with fail
  refine wp_region_below (by kernel_rfl) (by kernel_rfl) ?_
  repeat (go_big_quiet_step (fail))
  refine wpQuiet_nil ?_
  rintro _ ⟨wq, rfl⟩
  have BQ := Lib.hid (Below.andThen BQ.out wq.h (by have := BQ.out.size; have := RR.out.lt; omega))
  generalize wq.W = w2 at *
  clear u0 u1 u2
  have rJ := RJ.out.below BQ.out RJ.out.lt
  have rF := RF.out.below BQ.out RF.out.lt
  have rR := RR.out.below BQ.out RR.out.lt
  have RF2 := Lib.hid rF
  have RR2 := Lib.hid rR
  have j1 := rJ.cell 1
  have j2 := rJ.cell 2
  have j3 := rJ.cell 3
  have j4 := rJ.cell 4
  have c0 := rF.cell 0
  have c1 := rF.cell 1
  have c2 := rF.cell 2
  have c3 := rF.cell 3
  have z0 := rR.cell 0
  have z1 := rR.cell 1
  have z2 := rR.cell 2
  have z3 := rR.cell 3
  have k0 := frozen_of_row _ (w.heap.size + 1) 0 _ _ rF
  have k1 := frozen_of_row _ (w.heap.size + 1) 1 _ _ rF
  have k2 := frozen_of_row _ (w.heap.size + 1) 2 _ _ rF
  have k3 := frozen_of_row _ (w.heap.size + 1) 3 _ _ rF
  have l0 := frozen_of_row _ (w.heap.size + 1 + 1 + 1) 0 _ _ rR
  have l1 := frozen_of_row _ (w.heap.size + 1 + 1 + 1) 1 _ _ rR
  have l2 := frozen_of_row _ (w.heap.size + 1 + 1 + 1) 2 _ _ rR
  have l3 := frozen_of_row _ (w.heap.size + 1 + 1 + 1) 3 _ _ rR
  simp only [List.getElem?_cons_zero, List.getElem?_cons_succ] at j1 j2 j3 j4 c0 c1 c2 c3 z0 z1 z2 z3
  clear rJ rF rR
  go_wp2_with fail
  all_goals first | (exfalso; omega) | skip
  have hr : Row ((((((w2.setCell ⟨w.heap.size + 1, 2, none⟩ (.int .i64 0)).setCell ⟨w.heap.size + 1, 3, none⟩ (.int .i64 (f3 + f2))).setCell ⟨w.heap.size + 1 + 1 + 1, 0, none⟩ (.int .i64 f0)).setCell ⟨w.heap.size + 1 + 1 + 1, 1, none⟩ (.int .i64 f1)).setCell ⟨w.heap.size + 1 + 1 + 1, 2, none⟩ (.int .i64 0)).setCell ⟨w.heap.size + 1 + 1 + 1, 3, none⟩ (.int .i64 (f3 + f2))) (w.heap.size + 1 + 1 + 1) 77 [.int .i64 f0, .int .i64 f1, .int .i64 0, .int .i64 (f3 + f2)] := by
    simpa using ((((((RR2.out.other (2) (.int .i64 0) (g' := w.heap.size + 1) (by omega)).other (3) (.int .i64 (f3 + f2)) (g' := w.heap.size + 1) (by omega)).set 0 (.int .i64 f0)).set 1 (.int .i64 f1)).set 2 (.int .i64 0)).set 3 (.int .i64 (f3 + f2)))
  have v0 := hr.cell 0
  have v1 := hr.cell 1
  have v2 := hr.cell 2
  have v3 := hr.cell 3
  simp only [List.getElem?_cons_zero, List.getElem?_cons_succ] at v0 v1 v2 v3
  refine bodyPost_ret (v := .agg #[.int .i64 f0, .int .i64 f1, .int .i64 0, .int .i64 (f3 + f2)]) (by simp [results, Try.results54, go_sem, v0, v1, v2, v3]) rfl ⟨rfl, ?_⟩
  exact (((((((Below.andThen B0.out BQ.out (Nat.le_refl _)).setCell (p := ⟨w.heap.size + 1, 2, none⟩) (by dsimp only; omega) (.int .i64 0)).setCell (p := ⟨w.heap.size + 1, 3, none⟩) (by dsimp only; omega) (.int .i64 (f3 + f2))).setCell (p := ⟨w.heap.size + 1 + 1 + 1, 0, none⟩) (by dsimp only; omega) (.int .i64 f0)).setCell (p := ⟨w.heap.size + 1 + 1 + 1, 1, none⟩) (by dsimp only; omega) (.int .i64 f1)).setCell (p := ⟨w.heap.size + 1 + 1 + 1, 2, none⟩) (by dsimp only; omega) (.int .i64 0)).setCell (p := ⟨w.heap.size + 1 + 1 + 1, 3, none⟩) (by dsimp only; omega) (.int .i64 (f3 + f2)))
set_option maxRecDepth 100000 in
set_option maxHeartbeats 1000000 in
theorem after_2_3h (n p0 p1 p2 p3 f0 f1 f2 f3 : Int) (hf : 0 ≤ f2 ∧ f2 ≤ 12) (ht : 0 ≤ f3 ∧ f3 ≤ p3) (hp : p3 ≤ 12) (hmin : p3 - f3 < f2) (w : World) :
    Calls Try.prog 54 #[.agg #[.int .i64 n, .int .i64 p0, .int .i64 p1, .int .i64 p2, .int .i64 p3], .agg #[.int .i64 f0, .int .i64 f1, .int .i64 f2, .int .i64 f3], .agg #[.int .i64 2, .int .i64 3]] w fun e w' => e = .returned (aggI (afterF [p0, p1, p2, p3] [f0, f1, f2, f3] 2 3)) ∧ Below w.heap.size w w' := by
  obtain ⟨V, hV, rJ, rF, rS, rR, hb, hsz⟩ := after_start w [.int .i64 n, .int .i64 p0, .int .i64 p1, .int .i64 p2, .int .i64 p3] [.int .i64 f0, .int .i64 f1, .int .i64 f2, .int .i64 f3] [.int .i64 2, .int .i64 3] [.int .i64 0, .int .i64 0, .int .i64 0, .int .i64 0]
  have e1 : IntKind.i64.wrap (p3 - f3) = p3 - f3 := i64_of _ (by omega) (by omega)
  have e2 : IntKind.i64.wrap (f2 - (p3 - f3)) = f2 - (p3 - f3) := i64_of _ (by omega) (by omega)
  have e3 : IntKind.i64.wrap (f3 + (p3 - f3)) = f3 + (p3 - f3) := i64_of _ (by omega) (by omega)
  have hm : min f2 (p3 - f3) = (p3 - f3) := by omega
  have FIN : Hid (aggI (afterF [p0, p1, p2, p3] [f0, f1, f2, f3] 2 3) = .agg #[.int .i64 f0, .int .i64 f1, .int .i64 (f2 - (p3 - f3)), .int .i64 (f3 + (p3 - f3))]) := Lib.hid (by simp [afterF, aggI, encI, hm])
  rw [FIN.out]
  have HV := Lib.hid hV
  have RJ := Lib.hid rJ
  have RF := Lib.hid rF
  have RR := Lib.hid rR
  have B0 := Lib.hid hb
  have s0 := rS.cell 0
  have s1 := rS.cell 1
  simp only [List.getElem?_cons_zero, List.getElem?_cons_succ] at s0 s1
  have u0 := Kl.cell rS.lt s0
  have u1 := Kl.cell rS.lt s1
  clear hV rJ rF rS rR hb hsz s0 s1
  go_enter Try.func54, Try.ntmps54
  go_wp2_with fail
  rw [← HV.out]
  refine wp_region_below (by kernel_rfl) (by kernel_rfl) ?_
  repeat (go_big_quiet_step (fail))
  refine wpQuiet_nil ?_
  rintro _ ⟨wq, rfl⟩
  have BQ := Lib.hid wq.h
  generalize wq.W = w2 at *
  clear u0 u1
  have q1 := (RF.out.below BQ.out RF.out.lt).cell 2
  have q2 := (RF.out.below BQ.out RF.out.lt).cell 3
  have q3 := (RJ.out.below BQ.out RJ.out.lt).cell 4
  simp only [List.getElem?_cons_zero, List.getElem?_cons_succ] at q1 q2 q3
  have u0 := Kl.cell (RF.out.below BQ.out RF.out.lt).lt q1
  have u1 := Kl.cell (RF.out.below BQ.out RF.out.lt).lt q2
  have u2 := Kl.cell (RJ.out.below BQ.out RJ.out.lt).lt q3
  clear q1 q2 q3
  go_wp2_with fail
  refine wp_region_below (by kernel_rfl) (by kernel_rfl) ?_
  repeat (go_big_quiet_step (fail))
  refine wpQuiet_nil ?_
  rintro _ ⟨wq, rfl⟩
  have BQ := Lib.hid (Below.andThen BQ.out wq.h (by have := BQ.out.size; have := RR.out.lt; omega))
  generalize wq.W = w2 at *
  clear u0 u1 u2
  have rJ := RJ.out.below BQ.out RJ.out.lt
  have rF := RF.out.below BQ.out RF.out.lt
  have rR := RR.out.below BQ.out RR.out.lt
  have RF2 := Lib.hid rF
  have RR2 := Lib.hid rR
  have j1 := rJ.cell 1
  have j2 := rJ.cell 2
  have j3 := rJ.cell 3
  have j4 := rJ.cell 4
  have c0 := rF.cell 0
  have c1 := rF.cell 1
  have c2 := rF.cell 2
  have c3 := rF.cell 3
  have z0 := rR.cell 0
  have z1 := rR.cell 1
  have z2 := rR.cell 2
  have z3 := rR.cell 3
  have k0 := frozen_of_row _ (w.heap.size + 1) 0 _ _ rF
  have k1 := frozen_of_row _ (w.heap.size + 1) 1 _ _ rF
  have k2 := frozen_of_row _ (w.heap.size + 1) 2 _ _ rF
  have k3 := frozen_of_row _ (w.heap.size + 1) 3 _ _ rF
  have l0 := frozen_of_row _ (w.heap.size + 1 + 1 + 1) 0 _ _ rR
  have l1 := frozen_of_row _ (w.heap.size + 1 + 1 + 1) 1 _ _ rR
  have l2 := frozen_of_row _ (w.heap.size + 1 + 1 + 1) 2 _ _ rR
  have l3 := frozen_of_row _ (w.heap.size + 1 + 1 + 1) 3 _ _ rR
  simp only [List.getElem?_cons_zero, List.getElem?_cons_succ] at j1 j2 j3 j4 c0 c1 c2 c3 z0 z1 z2 z3
  clear rJ rF rR
  go_wp2_with fail
  all_goals first | (exfalso; omega) | skip
  have hr : Row ((((((w2.setCell ⟨w.heap.size + 1, 2, none⟩ (.int .i64 (f2 - (p3 - f3)))).setCell ⟨w.heap.size + 1, 3, none⟩ (.int .i64 (f3 + (p3 - f3)))).setCell ⟨w.heap.size + 1 + 1 + 1, 0, none⟩ (.int .i64 f0)).setCell ⟨w.heap.size + 1 + 1 + 1, 1, none⟩ (.int .i64 f1)).setCell ⟨w.heap.size + 1 + 1 + 1, 2, none⟩ (.int .i64 (f2 - (p3 - f3)))).setCell ⟨w.heap.size + 1 + 1 + 1, 3, none⟩ (.int .i64 (f3 + (p3 - f3)))) (w.heap.size + 1 + 1 + 1) 77 [.int .i64 f0, .int .i64 f1, .int .i64 (f2 - (p3 - f3)), .int .i64 (f3 + (p3 - f3))] := by
    simpa using ((((((RR2.out.other (2) (.int .i64 (f2 - (p3 - f3))) (g' := w.heap.size + 1) (by omega)).other (3) (.int .i64 (f3 + (p3 - f3))) (g' := w.heap.size + 1) (by omega)).set 0 (.int .i64 f0)).set 1 (.int .i64 f1)).set 2 (.int .i64 (f2 - (p3 - f3)))).set 3 (.int .i64 (f3 + (p3 - f3))))
  have v0 := hr.cell 0
  have v1 := hr.cell 1
  have v2 := hr.cell 2
  have v3 := hr.cell 3
  simp only [List.getElem?_cons_zero, List.getElem?_cons_succ] at v0 v1 v2 v3
  refine bodyPost_ret (v := .agg #[.int .i64 f0, .int .i64 f1, .int .i64 (f2 - (p3 - f3)), .int .i64 (f3 + (p3 - f3))]) (by simp [results, Try.results54, go_sem, v0, v1, v2, v3]) rfl ⟨rfl, ?_⟩
  exact (((((((Below.andThen B0.out BQ.out (Nat.le_refl _)).setCell (p := ⟨w.heap.size + 1, 2, none⟩) (by dsimp only; omega) (.int .i64 (f2 - (p3 - f3)))).setCell (p := ⟨w.heap.size + 1, 3, none⟩) (by dsimp only; omega) (.int .i64 (f3 + (p3 - f3)))).setCell (p := ⟨w.heap.size + 1 + 1 + 1, 0, none⟩) (by dsimp only; omega) (.int .i64 f0)).setCell (p := ⟨w.heap.size + 1 + 1 + 1, 1, none⟩) (by dsimp only; omega) (.int .i64 f1)).setCell (p := ⟨w.heap.size + 1 + 1 + 1, 2, none⟩) (by dsimp only; omega) (.int .i64 (f2 - (p3 - f3)))).setCell (p := ⟨w.heap.size + 1 + 1 + 1, 3, none⟩) (by dsimp only; omega) (.int .i64 (f3 + (p3 - f3))))
set_option maxRecDepth 100000 in
set_option maxHeartbeats 1000000 in
theorem after_3_s (n p0 p1 p2 p3 f0 f1 f2 f3 : Int) (w : World) :
    Calls Try.prog 54 #[.agg #[.int .i64 n, .int .i64 p0, .int .i64 p1, .int .i64 p2, .int .i64 p3], .agg #[.int .i64 f0, .int .i64 f1, .int .i64 f2, .int .i64 f3], .agg #[.int .i64 3, .int .i64 (-1)]] w fun e w' => e = .returned (aggI (afterF [p0, p1, p2, p3] [f0, f1, f2, f3] 3 (-1))) ∧ Below w.heap.size w w' := by
  obtain ⟨V, hV, rJ, rF, rS, rR, hb, hsz⟩ := after_start w [.int .i64 n, .int .i64 p0, .int .i64 p1, .int .i64 p2, .int .i64 p3] [.int .i64 f0, .int .i64 f1, .int .i64 f2, .int .i64 f3] [.int .i64 3, .int .i64 (-1)] [.int .i64 0, .int .i64 0, .int .i64 0, .int .i64 0]
  have FIN : Hid (aggI (afterF [p0, p1, p2, p3] [f0, f1, f2, f3] 3 (-1)) = .agg #[.int .i64 f0, .int .i64 f1, .int .i64 f2, .int .i64 0]) := Lib.hid (by simp [afterF, aggI, encI])
  rw [FIN.out]
  have HV := Lib.hid hV
  have RJ := Lib.hid rJ
  have RF := Lib.hid rF
  have RR := Lib.hid rR
  have B0 := Lib.hid hb
  have s0 := rS.cell 0
  have s1 := rS.cell 1
  simp only [List.getElem?_cons_zero, List.getElem?_cons_succ] at s0 s1
  have u0 := Kl.cell rS.lt s0
  have u1 := Kl.cell rS.lt s1
  clear hV rJ rF rS rR hb hsz s0 s1
  go_enter Try.func54, Try.ntmps54
  go_wp2_with fail
  rw [← HV.out]
  refine wp_region_below (by kernel_rfl) (by kernel_rfl) ?_
  repeat (go_big_quiet_step (fail))
  refine wpQuiet_nil ?_
  rintro _ ⟨wq, rfl⟩
  have BQ := Lib.hid wq.h
  generalize wq.W = w2 at *
  clear u0 u1
  have rJ := RJ.out.below BQ.out RJ.out.lt
  have rF := RF.out.below BQ.out RF.out.lt
  have rR := RR.out.below BQ.out RR.out.lt
  have RF2 := Lib.hid rF
  have RR2 := Lib.hid rR
  have j1 := rJ.cell 1
  have j2 := rJ.cell 2
  have j3 := rJ.cell 3
  have j4 := rJ.cell 4
  have c0 := rF.cell 0
  have c1 := rF.cell 1
  have c2 := rF.cell 2
  have c3 := rF.cell 3
  have z0 := rR.cell 0
  have z1 := rR.cell 1
  have z2 := rR.cell 2
  have z3 := rR.cell 3
  have k0 := frozen_of_row _ (w.heap.size + 1) 0 _ _ rF
  have k1 := frozen_of_row _ (w.heap.size + 1) 1 _ _ rF
  have k2 := frozen_of_row _ (w.heap.size + 1) 2 _ _ rF
  have k3 := frozen_of_row _ (w.heap.size + 1) 3 _ _ rF
  have l0 := frozen_of_row _ (w.heap.size + 1 + 1 + 1) 0 _ _ rR
  have l1 := frozen_of_row _ (w.heap.size + 1 + 1 + 1) 1 _ _ rR
  have l2 := frozen_of_row _ (w.heap.size + 1 + 1 + 1) 2 _ _ rR
  have l3 := frozen_of_row _ (w.heap.size + 1 + 1 + 1) 3 _ _ rR
  simp only [List.getElem?_cons_zero, List.getElem?_cons_succ] at j1 j2 j3 j4 c0 c1 c2 c3 z0 z1 z2 z3
  clear rJ rF rR
  go_wp2_with fail
  have hr : Row (((((w2.setCell ⟨w.heap.size + 1, 3, none⟩ (.int .i64 0)).setCell ⟨w.heap.size + 1 + 1 + 1, 0, none⟩ (.int .i64 f0)).setCell ⟨w.heap.size + 1 + 1 + 1, 1, none⟩ (.int .i64 f1)).setCell ⟨w.heap.size + 1 + 1 + 1, 2, none⟩ (.int .i64 f2)).setCell ⟨w.heap.size + 1 + 1 + 1, 3, none⟩ (.int .i64 0)) (w.heap.size + 1 + 1 + 1) 77 [.int .i64 f0, .int .i64 f1, .int .i64 f2, .int .i64 0] := by
    simpa using (((((RR2.out.other (3) (.int .i64 0) (g' := w.heap.size + 1) (by omega)).set 0 (.int .i64 f0)).set 1 (.int .i64 f1)).set 2 (.int .i64 f2)).set 3 (.int .i64 0))
  have v0 := hr.cell 0
  have v1 := hr.cell 1
  have v2 := hr.cell 2
  have v3 := hr.cell 3
  simp only [List.getElem?_cons_zero, List.getElem?_cons_succ] at v0 v1 v2 v3
  refine bodyPost_ret (v := .agg #[.int .i64 f0, .int .i64 f1, .int .i64 f2, .int .i64 0]) (by simp [results, Try.results54, go_sem, v0, v1, v2, v3]) rfl ⟨rfl, ?_⟩
  exact ((((((Below.andThen B0.out BQ.out (Nat.le_refl _)).setCell (p := ⟨w.heap.size + 1, 3, none⟩) (by dsimp only; omega) (.int .i64 0)).setCell (p := ⟨w.heap.size + 1 + 1 + 1, 0, none⟩) (by dsimp only; omega) (.int .i64 f0)).setCell (p := ⟨w.heap.size + 1 + 1 + 1, 1, none⟩) (by dsimp only; omega) (.int .i64 f1)).setCell (p := ⟨w.heap.size + 1 + 1 + 1, 2, none⟩) (by dsimp only; omega) (.int .i64 f2)).setCell (p := ⟨w.heap.size + 1 + 1 + 1, 3, none⟩) (by dsimp only; omega) (.int .i64 0))
set_option maxRecDepth 100000 in
set_option maxHeartbeats 1000000 in
theorem after_3_0l (n p0 p1 p2 p3 f0 f1 f2 f3 : Int) (hf : 0 ≤ f3 ∧ f3 ≤ 12) (ht : 0 ≤ f0 ∧ f0 ≤ p0) (hp : p0 ≤ 12) (hmin : f3 ≤ p0 - f0) (w : World) :
    Calls Try.prog 54 #[.agg #[.int .i64 n, .int .i64 p0, .int .i64 p1, .int .i64 p2, .int .i64 p3], .agg #[.int .i64 f0, .int .i64 f1, .int .i64 f2, .int .i64 f3], .agg #[.int .i64 3, .int .i64 0]] w fun e w' => e = .returned (aggI (afterF [p0, p1, p2, p3] [f0, f1, f2, f3] 3 0)) ∧ Below w.heap.size w w' := by
  obtain ⟨V, hV, rJ, rF, rS, rR, hb, hsz⟩ := after_start w [.int .i64 n, .int .i64 p0, .int .i64 p1, .int .i64 p2, .int .i64 p3] [.int .i64 f0, .int .i64 f1, .int .i64 f2, .int .i64 f3] [.int .i64 3, .int .i64 0] [.int .i64 0, .int .i64 0, .int .i64 0, .int .i64 0]
  have e1 : IntKind.i64.wrap (p0 - f0) = p0 - f0 := i64_of _ (by omega) (by omega)
  have e2 : IntKind.i64.wrap (f3 - f3) = f3 - f3 := i64_of _ (by omega) (by omega)
  have e3 : IntKind.i64.wrap (f0 + f3) = f0 + f3 := i64_of _ (by omega) (by omega)
  have hm : min f3 (p0 - f0) = f3 := by omega
  have FIN : Hid (aggI (afterF [p0, p1, p2, p3] [f0, f1, f2, f3] 3 0) = .agg #[.int .i64 (f0 + f3), .int .i64 f1, .int .i64 f2, .int .i64 0]) := Lib.hid (by simp [afterF, aggI, encI, hm])
  rw [FIN.out]
  have HV := Lib.hid hV
  have RJ := Lib.hid rJ
  have RF := Lib.hid rF
  have RR := Lib.hid rR
  have B0 := Lib.hid hb
  have s0 := rS.cell 0
  have s1 := rS.cell 1
  simp only [List.getElem?_cons_zero, List.getElem?_cons_succ] at s0 s1
  have u0 := Kl.cell rS.lt s0
  have u1 := Kl.cell rS.lt s1
  clear hV rJ rF rS rR hb hsz s0 s1
  go_enter Try.func54, Try.ntmps54
  go_wp2_with fail
  rw [← HV.out]
  refine wp_region_below (by kernel_rfl) (by kernel_rfl) ?_
  repeat (go_big_quiet_step (fail))
  refine wpQuiet_nil ?_
  rintro _ ⟨wq, rfl⟩
  have BQ := Lib.hid wq.h
  generalize wq.W = w2 at *
  clear u0 u1
  have q1 := (RF.out.below BQ.out RF.out.lt).cell 3
  have q2 := (RF.out.below BQ.out RF.out.lt).cell 0
  have q3 := (RJ.out.below BQ.out RJ.out.lt).cell 1
  simp only [List.getElem?_cons_zero, List.getElem?_cons_succ] at q1 q2 q3
  have u0 := Kl.cell (RF.out.below BQ.out RF.out.lt).lt q1
  have u1 := Kl.cell (RF.out.below BQ.out RF.out.lt).lt q2
  have u2 := Kl.cell (RJ.out.below BQ.out RJ.out.lt).lt q3
  clear q1 q2 q3
  go_wp2_with fail
  refine wp_region_below (by kernel_rfl) (by kernel_rfl) ?_
  repeat (go_big_quiet_step (fail))
  refine wpQuiet_nil ?_
  rintro _ ⟨wq, rfl⟩
  have BQ := Lib.hid (Below.andThen BQ.out wq.h (by have := BQ.out.size; have := RR.out.lt; omega))
  generalize wq.W = w2 at *
  clear u0 u1 u2
  have rJ := RJ.out.below BQ.out RJ.out.lt
  have rF := RF.out.below BQ.out RF.out.lt
  have rR := RR.out.below BQ.out RR.out.lt
  have RF2 := Lib.hid rF
  have RR2 := Lib.hid rR
  have j1 := rJ.cell 1
  have j2 := rJ.cell 2
  have j3 := rJ.cell 3
  have j4 := rJ.cell 4
  have c0 := rF.cell 0
  have c1 := rF.cell 1
  have c2 := rF.cell 2
  have c3 := rF.cell 3
  have z0 := rR.cell 0
  have z1 := rR.cell 1
  have z2 := rR.cell 2
  have z3 := rR.cell 3
  have k0 := frozen_of_row _ (w.heap.size + 1) 0 _ _ rF
  have k1 := frozen_of_row _ (w.heap.size + 1) 1 _ _ rF
  have k2 := frozen_of_row _ (w.heap.size + 1) 2 _ _ rF
  have k3 := frozen_of_row _ (w.heap.size + 1) 3 _ _ rF
  have l0 := frozen_of_row _ (w.heap.size + 1 + 1 + 1) 0 _ _ rR
  have l1 := frozen_of_row _ (w.heap.size + 1 + 1 + 1) 1 _ _ rR
  have l2 := frozen_of_row _ (w.heap.size + 1 + 1 + 1) 2 _ _ rR
  have l3 := frozen_of_row _ (w.heap.size + 1 + 1 + 1) 3 _ _ rR
  simp only [List.getElem?_cons_zero, List.getElem?_cons_succ] at j1 j2 j3 j4 c0 c1 c2 c3 z0 z1 z2 z3
  clear rJ rF rR
  go_wp2_with fail
  all_goals first | (exfalso; omega) | skip
  have hr : Row ((((((w2.setCell ⟨w.heap.size + 1, 3, none⟩ (.int .i64 0)).setCell ⟨w.heap.size + 1, 0, none⟩ (.int .i64 (f0 + f3))).setCell ⟨w.heap.size + 1 + 1 + 1, 0, none⟩ (.int .i64 (f0 + f3))).setCell ⟨w.heap.size + 1 + 1 + 1, 1, none⟩ (.int .i64 f1)).setCell ⟨w.heap.size + 1 + 1 + 1, 2, none⟩ (.int .i64 f2)).setCell ⟨w.heap.size + 1 + 1 + 1, 3, none⟩ (.int .i64 0)) (w.heap.size + 1 + 1 + 1) 77 [.int .i64 (f0 + f3), .int .i64 f1, .int .i64 f2, .int .i64 0] := by
    simpa using ((((((RR2.out.other (3) (.int .i64 0) (g' := w.heap.size + 1) (by omega)).other (0) (.int .i64 (f0 + f3)) (g' := w.heap.size + 1) (by omega)).set 0 (.int .i64 (f0 + f3))).set 1 (.int .i64 f1)).set 2 (.int .i64 f2)).set 3 (.int .i64 0))
  have v0 := hr.cell 0
  have v1 := hr.cell 1
  have v2 := hr.cell 2
  have v3 := hr.cell 3
  simp only [List.getElem?_cons_zero, List.getElem?_cons_succ] at v0 v1 v2 v3
  refine bodyPost_ret (v := .agg #[.int .i64 (f0 + f3), .int .i64 f1, .int .i64 f2, .int .i64 0]) (by simp [results, Try.results54, go_sem, v0, v1, v2, v3]) rfl ⟨rfl, ?_⟩
  exact (((((((Below.andThen B0.out BQ.out (Nat.le_refl _)).setCell (p := ⟨w.heap.size + 1, 3, none⟩) (by dsimp only; omega) (.int .i64 0)).setCell (p := ⟨w.heap.size + 1, 0, none⟩) (by dsimp only; omega) (.int .i64 (f0 + f3))).setCell (p := ⟨w.heap.size + 1 + 1 + 1, 0, none⟩) (by dsimp only; omega) (.int .i64 (f0 + f3))).setCell (p := ⟨w.heap.size + 1 + 1 + 1, 1, none⟩) (by dsimp only; omega) (.int .i64 f1)).setCell (p := ⟨w.heap.size + 1 + 1 + 1, 2, none⟩) (by dsimp only; omega) (.int .i64 f2)).setCell (p := ⟨w.heap.size + 1 + 1 + 1, 3, none⟩) (by dsimp only; omega) (.int .i64 0))
set_option maxRecDepth 100000 in
set_option maxHeartbeats 1000000 in
theorem after_3_0h (n p0 p1 p2 p3 f0 f1 f2 f3 : Int) (hf : 0 ≤ f3 ∧ f3 ≤ 12) (ht : 0 ≤ f0 ∧ f0 ≤ p0) (hp : p0 ≤ 12) (hmin : p0 - f0 < f3) (w : World) :
    Calls Try.prog 54 #[.agg #[.int .i64 n, .int .i64 p0, .int .i64 p1, .int .i64 p2, .int .i64 p3], .agg #[.int .i64 f0, .int .i64 f1, .int .i64 f2, .int .i64 f3], .agg #[.int .i64 3, .int .i64 0]] w fun e w' => e = .returned (aggI (afterF [p0, p1, p2, p3] [f0, f1, f2, f3] 3 0)) ∧ Below w.heap.size w w' := by
  obtain ⟨V, hV, rJ, rF, rS, rR, hb, hsz⟩ := after_start w [.int .i64 n, .int .i64 p0, .int .i64 p1, .int .i64 p2, .int .i64 p3] [.int .i64 f0, .int .i64 f1, .int .i64 f2, .int .i64 f3] [.int .i64 3, .int .i64 0] [.int .i64 0, .int .i64 0, .int .i64 0, .int .i64 0]
  have e1 : IntKind.i64.wrap (p0 - f0) = p0 - f0 := i64_of _ (by omega) (by omega)
  have e2 : IntKind.i64.wrap (f3 - (p0 - f0)) = f3 - (p0 - f0) := i64_of _ (by omega) (by omega)
  have e3 : IntKind.i64.wrap (f0 + (p0 - f0)) = f0 + (p0 - f0) := i64_of _ (by omega) (by omega)
  have hm : min f3 (p0 - f0) = (p0 - f0) := by omega
  have FIN : Hid (aggI (afterF [p0, p1, p2, p3] [f0, f1, f2, f3] 3 0) = .agg #[.int .i64 (f0 + (p0 - f0)), .int .i64 f1, .int .i64 f2, .int .i64 (f3 - (p0 - f0))]) := Lib.hid (by simp [afterF, aggI, encI, hm])
  rw [FIN.out]
  have HV := Lib.hid hV
  have RJ := Lib.hid rJ
  have RF := Lib.hid rF
  have RR := Lib.hid rR
  have B0 := Lib.hid hb
  have s0 := rS.cell 0
  have s1 := rS.cell 1
  simp only [List.getElem?_cons_zero, List.getElem?_cons_succ] at s0 s1
  have u0 := Kl.cell rS.lt s0
  have u1 := Kl.cell rS.lt s1
  clear hV rJ rF rS rR hb hsz s0 s1
  go_enter Try.func54, Try.ntmps54
  go_wp2_with fail
  rw [← HV.out]
  refine wp_region_below (by kernel_rfl) (by kernel_rfl) ?_
  repeat (go_big_quiet_step (fail))
  refine wpQuiet_nil ?_
  rintro _ ⟨wq, rfl⟩
  have BQ := Lib.hid wq.h
  generalize wq.W = w2 at *
  clear u0 u1
  have q1 := (RF.out.below BQ.out RF.out.lt).cell 3
  have q2 := (RF.out.below BQ.out RF.out.lt).cell 0
  have q3 := (RJ.out.below BQ.out RJ.out.lt).cell 1
  simp only [List.getElem?_cons_zero, List.getElem?_cons_succ] at q1 q2 q3
  have u0 := Kl.cell (RF.out.below BQ.out RF.out.lt).lt q1
  have u1 := Kl.cell (RF.out.below BQ.out RF.out.lt).lt q2
  have u2 := Kl.cell (RJ.out.below BQ.out RJ.out.lt).lt q3
  clear q1 q2 q3
  go_wp2_with fail
  refine wp_region_below (by kernel_rfl) (by kernel_rfl) ?_
  repeat (go_big_quiet_step (fail))
  refine wpQuiet_nil ?_
  rintro _ ⟨wq, rfl⟩
  have BQ := Lib.hid (Below.andThen BQ.out wq.h (by have := BQ.out.size; have := RR.out.lt; omega))
  generalize wq.W = w2 at *
  clear u0 u1 u2
  have rJ := RJ.out.below BQ.out RJ.out.lt
  have rF := RF.out.below BQ.out RF.out.lt
  have rR := RR.out.below BQ.out RR.out.lt
  have RF2 := Lib.hid rF
  have RR2 := Lib.hid rR
  have j1 := rJ.cell 1
  have j2 := rJ.cell 2
  have j3 := rJ.cell 3
  have j4 := rJ.cell 4
  have c0 := rF.cell 0
  have c1 := rF.cell 1
  have c2 := rF.cell 2
  have c3 := rF.cell 3
  have z0 := rR.cell 0
  have z1 := rR.cell 1
  have z2 := rR.cell 2
  have z3 := rR.cell 3
  have k0 := frozen_of_row _ (w.heap.size + 1) 0 _ _ rF
  have k1 := frozen_of_row _ (w.heap.size + 1) 1 _ _ rF
  have k2 := frozen_of_row _ (w.heap.size + 1) 2 _ _ rF
  have k3 := frozen_of_row _ (w.heap.size + 1) 3 _ _ rF
  have l0 := frozen_of_row _ (w.heap.size + 1 + 1 + 1) 0 _ _ rR
  have l1 := frozen_of_row _ (w.heap.size + 1 + 1 + 1) 1 _ _ rR
  have l2 := frozen_of_row _ (w.heap.size + 1 + 1 + 1) 2 _ _ rR
  have l3 := frozen_of_row _ (w.heap.size + 1 + 1 + 1) 3 _ _ rR
  simp only [List.getElem?_cons_zero, List.getElem?_cons_succ] at j1 j2 j3 j4 c0 c1 c2 c3 z0 z1 z2 z3
  clear rJ rF rR
  go_wp2_with fail
  all_goals first | (exfalso; omega) | skip
  have hr : Row ((((((w2.setCell ⟨w.heap.size + 1, 3, none⟩ (.int .i64 (f3 - (p0 - f0)))).setCell ⟨w.heap.size + 1, 0, none⟩ (.int .i64 (f0 + (p0 - f0)))).setCell ⟨w.heap.size + 1 + 1 + 1, 0, none⟩ (.int .i64 (f0 + (p0 - f0)))).setCell ⟨w.heap.size + 1 + 1 + 1, 1, none⟩ (.int .i64 f1)).setCell ⟨w.heap.size + 1 + 1 + 1, 2, none⟩ (.int .i64 f2)).setCell ⟨w.heap.size + 1 + 1 + 1, 3, none⟩ (.int .i64 (f3 - (p0 - f0)))) (w.heap.size + 1 + 1 + 1) 77 [.int .i64 (f0 + (p0 - f0)), .int .i64 f1, .int .i64 f2, .int .i64 (f3 - (p0 - f0))] := by
    simpa using ((((((RR2.out.other (3) (.int .i64 (f3 - (p0 - f0))) (g' := w.heap.size + 1) (by omega)).other (0) (.int .i64 (f0 + (p0 - f0))) (g' := w.heap.size + 1) (by omega)).set 0 (.int .i64 (f0 + (p0 - f0)))).set 1 (.int .i64 f1)).set 2 (.int .i64 f2)).set 3 (.int .i64 (f3 - (p0 - f0))))
  have v0 := hr.cell 0
  have v1 := hr.cell 1
  have v2 := hr.cell 2
  have v3 := hr.cell 3
  simp only [List.getElem?_cons_zero, List.getElem?_cons_succ] at v0 v1 v2 v3
  refine bodyPost_ret (v := .agg #[.int .i64 (f0 + (p0 - f0)), .int .i64 f1, .int .i64 f2, .int .i64 (f3 - (p0 - f0))]) (by simp [results, Try.results54, go_sem, v0, v1, v2, v3]) rfl ⟨rfl, ?_⟩
  exact (((((((Below.andThen B0.out BQ.out (Nat.le_refl _)).setCell (p := ⟨w.heap.size + 1, 3, none⟩) (by dsimp only; omega) (.int .i64 (f3 - (p0 - f0)))).setCell (p := ⟨w.heap.size + 1, 0, none⟩) (by dsimp only; omega) (.int .i64 (f0 + (p0 - f0)))).setCell (p := ⟨w.heap.size + 1 + 1 + 1, 0, none⟩) (by dsimp only; omega) (.int .i64 (f0 + (p0 - f0)))).setCell (p := ⟨w.heap.size + 1 + 1 + 1, 1, none⟩) (by dsimp only; omega) (.int .i64 f1)).setCell (p := ⟨w.heap.size + 1 + 1 + 1, 2, none⟩) (by dsimp only; omega) (.int .i64 f2)).setCell (p := ⟨w.heap.size + 1 + 1 + 1, 3, none⟩) (by dsimp only; omega) (.int .i64 (f3 - (p0 - f0))))
set_option maxRecDepth 100000 in
set_option maxHeartbeats 1000000 in
theorem after_3_1l (n p0 p1 p2 p3 f0 f1 f2 f3 : Int) (hf : 0 ≤ f3 ∧ f3 ≤ 12) (ht : 0 ≤ f1 ∧ f1 ≤ p1) (hp : p1 ≤ 12) (hmin : f3 ≤ p1 - f1) (w : World) :
    Calls Try.prog 54 #[.agg #[.int .i64 n, .int .i64 p0, .int .i64 p1, .int .i64 p2, .int .i64 p3], .agg #[.int .i64 f0, .int .i64 f1, .int .i64 f2, .int .i64 f3], .agg #[.int .i64 3, .int .i64 1]] w fun e w' => e = .returned (aggI (afterF [p0, p1, p2, p3] [f0, f1, f2, f3] 3 1)) ∧ Below w.heap.size w w' := by
  obtain ⟨V, hV, rJ, rF, rS, rR, hb, hsz⟩ := after_start w [.int .i64 n, .int .i64 p0, .int .i64 p1, .int .i64 p2, .int .i64 p3] [.int .i64 f0, .int .i64 f1, .int .i64 f2, .int .i64 f3] [.int .i64 3, .int .i64 1] [.int .i64 0, .int .i64 0, .int .i64 0, .int .i64 0]
  have e1 : IntKind.i64.wrap (p1 - f1) = p1 - f1 := i64_of _ (by omega) (by omega)
  have e2 : IntKind.i64.wrap (f3 - f3) = f3 - f3 := i64_of _ (by omega) (by omega)
  have e3 : IntKind.i64.wrap (f1 + f3) = f1 + f3 := i64_of _ (by omega) (by omega)
  have hm : min f3 (p1 - f1) = f3 := by omega
  have FIN : Hid (aggI (afterF [p0, p1, p2, p3] [f0, f1, f2, f3] 3 1) = .agg #[.int .i64 f0, .int .i64 (f1 + f3), .int .i64 f2, .int .i64 0]) := Lib.hid (by simp [afterF, aggI, encI, hm])
  rw [FIN.out]
  have HV := Lib.hid hV
  have RJ := Lib.hid rJ
  have RF := Lib.hid rF
  have RR := Lib.hid rR
  have B0 := Lib.hid hb
  have s0 := rS.cell 0
  have s1 := rS.cell 1
  simp only [List.getElem?_cons_zero, List.getElem?_cons_succ] at s0 s1
  have u0 := Kl.cell rS.lt s0
  have u1 := Kl.cell rS.lt s1
  clear hV rJ rF rS rR hb hsz s0 s1
  go_enter Try.func54, Try.ntmps54
  go_wp2_with fail
  rw [← HV.out]
  refine wp_region_below (by kernel_rfl) (by kernel_rfl) ?_
  repeat (go_big_quiet_step (fail))
  refine wpQuiet_nil ?_
  rintro _ ⟨wq, rfl⟩
  have BQ := Lib.hid wq.h
  generalize wq.W = w2 at *
  clear u0 u1
  have q1 := (RF.out.below BQ.out RF.out.lt).cell 3
  have q2 := (RF.out.below BQ.out RF.out.lt).cell 1
  have q3 := (RJ.out.below BQ.out RJ.out.lt).cell 2
  simp only [List.getElem?_cons_zero, List.getElem?_cons_succ] at q1 q2 q3
  have u0 := Kl.cell (RF.out.below BQ.out RF.out.lt).lt q1
  have u1 := Kl.cell (RF.out.below BQ.out RF.out.lt).lt q2
  have u2 := Kl.cell (RJ.out.below BQ.out RJ.out.lt).lt q3
  clear q1 q2 q3
  go_wp2_with fail
  refine wp_region_below (by kernel_rfl) (by kernel_rfl) ?_
  repeat (go_big_quiet_step (fail))
  refine wpQuiet_nil ?_
  rintro _ ⟨wq, rfl⟩
  have BQ := Lib.hid (Below.andThen BQ.out wq.h (by have := BQ.out.size; have := RR.out.lt; omega))
  generalize wq.W = w2 at *
  clear u0 u1 u2
  have rJ := RJ.out.below BQ.out RJ.out.lt
  have rF := RF.out.below BQ.out RF.out.lt
  have rR := RR.out.below BQ.out RR.out.lt
  have RF2 := Lib.hid rF
  have RR2 := Lib.hid rR
  have j1 := rJ.cell 1
  have j2 := rJ.cell 2
  have j3 := rJ.cell 3
  have j4 := rJ.cell 4
  have c0 := rF.cell 0
  have c1 := rF.cell 1
  have c2 := rF.cell 2
  have c3 := rF.cell 3
  have z0 := rR.cell 0
  have z1 := rR.cell 1
  have z2 := rR.cell 2
  have z3 := rR.cell 3
  have k0 := frozen_of_row _ (w.heap.size + 1) 0 _ _ rF
  have k1 := frozen_of_row _ (w.heap.size + 1) 1 _ _ rF
  have k2 := frozen_of_row _ (w.heap.size + 1) 2 _ _ rF
  have k3 := frozen_of_row _ (w.heap.size + 1) 3 _ _ rF
  have l0 := frozen_of_row _ (w.heap.size + 1 + 1 + 1) 0 _ _ rR
  have l1 := frozen_of_row _ (w.heap.size + 1 + 1 + 1) 1 _ _ rR
  have l2 := frozen_of_row _ (w.heap.size + 1 + 1 + 1) 2 _ _ rR
  have l3 := frozen_of_row _ (w.heap.size + 1 + 1 + 1) 3 _ _ rR
  simp only [List.getElem?_cons_zero, List.getElem?_cons_succ] at j1 j2 j3 j4 c0 c1 c2 c3 z0 z1 z2 z3
  clear rJ rF rR
  go_wp2_with fail
  all_goals first | (exfalso; omega) | skip
  have hr : Row ((((((w2.setCell ⟨w.heap.size + 1, 3, none⟩ (.int .i64 0)).setCell ⟨w.heap.size + 1, 1, none⟩ (.int .i64 (f1 + f3))).setCell ⟨w.heap.size + 1 + 1 + 1, 0, none⟩ (.int .i64 f0)).setCell ⟨w.heap.size + 1 + 1 + 1, 1, none⟩ (.int .i64 (f1 + f3))).setCell ⟨w.heap.size + 1 + 1 + 1, 2, none⟩ (.int .i64 f2)).setCell ⟨w.heap.size + 1 + 1 + 1, 3, none⟩ (.int .i64 0)) (w.heap.size + 1 + 1 + 1) 77 [.int .i64 f0, .int .i64 (f1 + f3), .int .i64 f2, .int .i64 0] := by
    simpa using ((((((RR2.out.other (3) (.int .i64 0) (g' := w.heap.size + 1) (by omega)).other (1) (.int .i64 (f1 + f3)) (g' := w.heap.size + 1) (by omega)).set 0 (.int .i64 f0)).set 1 (.int .i64 (f1 + f3))).set 2 (.int .i64 f2)).set 3 (.int .i64 0))
  have v0 := hr.cell 0
  have v1 := hr.cell 1
  have v2 := hr.cell 2
  have v3 := hr.cell 3
  simp only [List.getElem?_cons_zero, List.getElem?_cons_succ] at v0 v1 v2 v3
  refine bodyPost_ret (v := .agg #[.int .i64 f0, .int .i64 (f1 + f3), .int .i64 f2, .int .i64 0]) (by simp [results, Try.results54, go_sem, v0, v1, v2, v3]) rfl ⟨rfl, ?_⟩
  exact (((((((Below.andThen B0.out BQ.out (Nat.le_refl _)).setCell (p := ⟨w.heap.size + 1, 3, none⟩) (by dsimp only; omega) (.int .i64 0)).setCell (p := ⟨w.heap.size + 1, 1, none⟩) (by dsimp only; omega) (.int .i64 (f1 + f3))).setCell (p := ⟨w.heap.size + 1 + 1 + 1, 0, none⟩) (by dsimp only; omega) (.int .i64 f0)).setCell (p := ⟨w.heap.size + 1 + 1 + 1, 1, none⟩) (by dsimp only; omega) (.int .i64 (f1 + f3))).setCell (p := ⟨w.heap.size + 1 + 1 + 1, 2, none⟩) (by dsimp only; omega) (.int .i64 f2)).setCell (p := ⟨w.heap.size + 1 + 1 + 1, 3, none⟩) (by dsimp only; omega) (.int .i64 0))
set_option maxRecDepth 100000 in
set_option maxHeartbeats 1000000 in
theorem after_3_1h (n p0 p1 p2 p3 f0 f1 f2 f3 : Int) (hf : 0 ≤ f3 ∧ f3 ≤ 12) (ht : 0 ≤ f1 ∧ f1 ≤ p1) (hp : p1 ≤ 12) (hmin : p1 - f1 < f3) (w : World) :
    Calls Try.prog 54 #[.agg #[.int .i64 n, .int .i64 p0, .int .i64 p1, .int .i64 p2, .int .i64 p3], .agg #[.int .i64 f0, .int .i64 f1, .int .i64 f2, .int .i64 f3], .agg #[.int .i64 3, .int .i64 1]] w fun e w' => e = .returned (aggI (afterF [p0, p1, p2, p3] [f0, f1, f2, f3] 3 1)) ∧ Below w.heap.size w w' := by
  obtain ⟨V, hV, rJ, rF, rS, rR, hb, hsz⟩ := after_start w [.int .i64 n, .int .i64 p0, .int .i64 p1, .int .i64 p2, .int .i64 p3] [.int .i64 f0, .int .i64 f1, .int .i64 f2, .int .i64 f3] [.int .i64 3, .int .i64 1] [.int .i64 0, .int .i64 0, .int .i64 0, .int .i64 0]
  have e1 : IntKind.i64.wrap (p1 - f1) = p1 - f1 := i64_of _ (by omega) (by omega)
  have e2 : IntKind.i64.wrap (f3 - (p1 - f1)) = f3 - (p1 - f1) := i64_of _ (by omega) (by omega)
  have e3 : IntKind.i64.wrap (f1 + (p1 - f1)) = f1 + (p1 - f1) := i64_of _ (by omega) (by omega)
  have hm : min f3 (p1 - f1) = (p1 - f1) := by omega
  have FIN : Hid (aggI (afterF [p0, p1, p2, p3] [f0, f1, f2, f3] 3 1) = .agg #[.int .i64 f0, .int .i64 (f1 + (p1 - f1)), .int .i64 f2, .int .i64 (f3 - (p1 - f1))]) := Lib.hid (by simp [afterF, aggI, encI, hm])
  rw [FIN.out]
  have HV := Lib.hid hV
  have RJ := Lib.hid rJ
  have RF := Lib.hid rF
  have RR := Lib.hid rR
  have B0 := Lib.hid hb
  have s0 := rS.cell 0
  have s1 := rS.cell 1
  simp only [List.getElem?_cons_zero, List.getElem?_cons_succ] at s0 s1
  have u0 := Kl.cell rS.lt s0
  have u1 := Kl.cell rS.lt s1
  clear hV rJ rF rS rR hb hsz s0 s1
  go_enter Try.func54, Try.ntmps54
  go_wp2_with fail
  rw [← HV.out]
  refine wp_region_below (by kernel_rfl) (by kernel_rfl) ?_
  repeat (go_big_quiet_step (fail))
  refine wpQuiet_nil ?_
  rintro _ ⟨wq, rfl⟩
  have BQ := Lib.hid wq.h
  generalize wq.W = w2 at *
  clear u0 u1
  have q1 := (RF.out.below BQ.out RF.out.lt).cell 3
  have q2 := (RF.out.below BQ.out RF.out.lt).cell 1
  have q3 := (RJ.out.below BQ.out RJ.out.lt).cell 2
  simp only [List.getElem?_cons_zero, List.getElem?_cons_succ] at q1 q2 q3
  have u0 := Kl.cell (RF.out.below BQ.out RF.out.lt).lt q1
  have u1 := Kl.cell (RF.out.below BQ.out RF.out.lt).lt q2
  have u2 := Kl.cell (RJ.out.below BQ.out RJ.out.lt).lt q3
  clear q1 q2 q3
  go_wp2_with fail
  refine wp_region_below (by kernel_rfl) (by kernel_rfl) ?_
  repeat (go_big_quiet_step (fail))
  refine wpQuiet_nil ?_
  rintro _ ⟨wq, rfl⟩
  have BQ := Lib.hid (Below.andThen BQ.out wq.h (by have := BQ.out.size; have := RR.out.lt; omega))
  generalize wq.W = w2 at *
  clear u0 u1 u2
  have rJ := RJ.out.below BQ.out RJ.out.lt
  have rF := RF.out.below BQ.out RF.out.lt
  have rR := RR.out.below BQ.out RR.out.lt
  have RF2 := Lib.hid rF
  have RR2 := Lib.hid rR
  have j1 := rJ.cell 1
  have j2 := rJ.cell 2
  have j3 := rJ.cell 3
  have j4 := rJ.cell 4
  have c0 := rF.cell 0
  have c1 := rF.cell 1
  have c2 := rF.cell 2
  have c3 := rF.cell 3
  have z0 := rR.cell 0
  have z1 := rR.cell 1
  have z2 := rR.cell 2
  have z3 := rR.cell 3
  have k0 := frozen_of_row _ (w.heap.size + 1) 0 _ _ rF
  have k1 := frozen_of_row _ (w.heap.size + 1) 1 _ _ rF
  have k2 := frozen_of_row _ (w.heap.size + 1) 2 _ _ rF
  have k3 := frozen_of_row _ (w.heap.size + 1) 3 _ _ rF
  have l0 := frozen_of_row _ (w.heap.size + 1 + 1 + 1) 0 _ _ rR
  have l1 := frozen_of_row _ (w.heap.size + 1 + 1 + 1) 1 _ _ rR
  have l2 := frozen_of_row _ (w.heap.size + 1 + 1 + 1) 2 _ _ rR
  have l3 := frozen_of_row _ (w.heap.size + 1 + 1 + 1) 3 _ _ rR
  simp only [List.getElem?_cons_zero, List.getElem?_cons_succ] at j1 j2 j3 j4 c0 c1 c2 c3 z0 z1 z2 z3
  clear rJ rF rR
  go_wp2_with fail
  all_goals first | (exfalso; omega) | skip
  have hr : Row ((((((w2.setCell ⟨w.heap.size + 1, 3, none⟩ (.int .i64 (f3 - (p1 - f1)))).setCell ⟨w.heap.size + 1, 1, none⟩ (.int .i64 (f1 + (p1 - f1)))).setCell ⟨w.heap.size + 1 + 1 + 1, 0, none⟩ (.int .i64 f0)).setCell ⟨w.heap.size + 1 + 1 + 1, 1, none⟩ (.int .i64 (f1 + (p1 - f1)))).setCell ⟨w.heap.size + 1 + 1 + 1, 2, none⟩ (.int .i64 f2)).setCell ⟨w.heap.size + 1 + 1 + 1, 3, none⟩ (.int .i64 (f3 - (p1 - f1)))) (w.heap.size + 1 + 1 + 1) 77 [.int .i64 f0, .int .i64 (f1 + (p1 - f1)), .int .i64 f2, .int .i64 (f3 - (p1 - f1))] := by
    simpa using ((((((RR2.out.other (3) (.int .i64 (f3 - (p1 - f1))) (g' := w.heap.size + 1) (by omega)).other (1) (.int .i64 (f1 + (p1 - f1))) (g' := w.heap.size + 1) (by omega)).set 0 (.int .i64 f0)).set 1 (.int .i64 (f1 + (p1 - f1)))).set 2 (.int .i64 f2)).set 3 (.int .i64 (f3 - (p1 - f1))))
  have v0 := hr.cell 0
  have v1 := hr.cell 1
  have v2 := hr.cell 2
  have v3 := hr.cell 3
  simp only [List.getElem?_cons_zero, List.getElem?_cons_succ] at v0 v1 v2 v3
  refine bodyPost_ret (v := .agg #[.int .i64 f0, .int .i64 (f1 + (p1 - f1)), .int .i64 f2, .int .i64 (f3 - (p1 - f1))]) (by simp [results, Try.results54, go_sem, v0, v1, v2, v3]) rfl ⟨rfl, ?_⟩
  exact (((((((Below.andThen B0.out BQ.out (Nat.le_refl _)).setCell (p := ⟨w.heap.size + 1, 3, none⟩) (by dsimp only; omega) (.int .i64 (f3 - (p1 - f1)))).setCell (p := ⟨w.heap.size + 1, 1, none⟩) (by dsimp only; omega) (.int .i64 (f1 + (p1 - f1)))).setCell (p := ⟨w.heap.size + 1 + 1 + 1, 0, none⟩) (by dsimp only; omega) (.int .i64 f0)).setCell (p := ⟨w.heap.size + 1 + 1 + 1, 1, none⟩) (by dsimp only; omega) (.int .i64 (f1 + (p1 - f1)))).setCell (p := ⟨w.heap.size + 1 + 1 + 1, 2, none⟩) (by dsimp only; omega) (.int .i64 f2)).setCell (p := ⟨w.heap.size + 1 + 1 + 1, 3, none⟩) (by dsimp only; omega) (.int .i64 (f3 - (p1 - f1))))
set_option maxRecDepth 100000 in
set_option maxHeartbeats 1000000 in
theorem after_3_2l (n p0 p1 p2 p3 f0 f1 f2 f3 : Int) (hf : 0 ≤ f3 ∧ f3 ≤ 12) (ht : 0 ≤ f2 ∧ f2 ≤ p2) (hp : p2 ≤ 12) (hmin : f3 ≤ p2 - f2) (w : World) :
    Calls Try.prog 54 #[.agg #[.int .i64 n, .int .i64 p0, .int .i64 p1, .int .i64 p2, .int .i64 p3], .agg #[.int .i64 f0, .int .i64 f1, .int .i64 f2, .int .i64 f3], .agg #[.int .i64 3, .int .i64 2]] w fun e w' => e = .returned (aggI (afterF [p0, p1, p2, p3] [f0, f1, f2, f3] 3 2)) ∧ Below w.heap.size w w' := by
  obtain ⟨V, hV, rJ, rF, rS, rR, hb, hsz⟩ := after_start w [.int .i64 n, .int .i64 p0, .int .i64 p1, .int .i64 p2, .int .i64 p3] [.int .i64 f0, .int .i64 f1, .int .i64 f2, .int .i64 f3] [.int .i64 3, .int .i64 2] [.int .i64 0, .int .i64 0, .int .i64 0, .int .i64 0]
  have e1 : IntKind.i64.wrap (p2 - f2) = p2 - f2 := i64_of _ (by omega) (by omega)
  have e2 : IntKind.i64.wrap (f3 - f3) = f3 - f3 := i64_of _ (by omega) (by omega)
  have e3 : IntKind.i64.wrap (f2 + f3) = f2 + f3 := i64_of _ (by omega) (by omega)
  have hm : min f3 (p2 - f2) = f3 := by omega
  have FIN : Hid (aggI (afterF [p0, p1, p2, p3] [f0, f1, f2, f3] 3 2) = .agg #[.int .i64 f0, .int .i64 f1, .int .i64 (f2 + f3), .int .i64 0]) := Lib.hid (by simp [afterF, aggI, encI, hm])
  rw [FIN.out]
  have HV := Lib.hid hV
  have RJ := Lib.hid rJ
  have RF := Lib.hid rF
  have RR := Lib.hid rR
  have B0 := Lib.hid hb
  have s0 := rS.cell 0
  have s1 := rS.cell 1
  simp only [List.getElem?_cons_zero, List.getElem?_cons_succ] at s0 s1
  have u0 := Kl.cell rS.lt s0
  have u1 := Kl.cell rS.lt s1
  clear hV rJ rF rS rR hb hsz s0 s1
  go_enter Try.func54, Try.ntmps54
  go_wp2_with fail
  rw [← HV.out]
  refine wp_region_below (by kernel_rfl) (by kernel_rfl) ?_
  repeat (go_big_quiet_step (fail))
  refine wpQuiet_nil ?_
  rintro _ ⟨wq, rfl⟩
  have BQ := Lib.hid wq.h
  generalize wq.W = w2 at *
  clear u0 u1
  have q1 := (RF.out.below BQ.out RF.out.lt).cell 3
  have q2 := (RF.out.below BQ.out RF.out.lt).cell 2
  have q3 := (RJ.out.below BQ.out RJ.out.lt).cell 3
  simp only [List.getElem?_cons_zero, List.getElem?_cons_succ] at q1 q2 q3
  have u0 := Kl.cell (RF.out.below BQ.out RF.out.lt).lt q1
  have u1 := Kl.cell (RF.out.below BQ.out RF.out.lt).lt q2
  have u2 := Kl.cell (RJ.out.below BQ.out RJ.out.lt).lt q3
  clear q1 q2 q3
  go_wp2_with fail
  refine wp_region_below (by kernel_rfl) (by kernel_rfl) ?_
  repeat (go_big_quiet_step (fail))
  refine wpQuiet_nil ?_
  rintro _ ⟨wq, rfl⟩
  have BQ := Lib.hid (Below.andThen BQ.out wq.h (by have := BQ.out.size; have := RR.out.lt; omega))
  generalize wq.W = w2 at *
  clear u0 u1 u2
  have rJ := RJ.out.below BQ.out RJ.out.lt
  have rF := RF.out.below BQ.out RF.out.lt
  have rR := RR.out.below BQ.out RR.out.lt
  have RF2 := Lib.hid rF
  have RR2 := Lib.hid rR
  have j1 := rJ.cell 1
  have j2 := rJ.cell 2
  have j3 := rJ.cell 3
  have j4 := rJ.cell 4
  have c0 := rF.cell 0
  have c1 := rF.cell 1
  have c2 := rF.cell 2
  have c3 := rF.cell 3
  have z0 := rR.cell 0
  have z1 := rR.cell 1
  have z2 := rR.cell 2
  have z3 := rR.cell 3
  have k0 := frozen_of_row _ (w.heap.size + 1) 0 _ _ rF
  have k1 := frozen_of_row _ (w.heap.size + 1) 1 _ _ rF
  have k2 := frozen_of_row _ (w.heap.size + 1) 2 _ _ rF
  have k3 := frozen_of_row _ (w.heap.size + 1) 3 _ _ rF
  have l0 := frozen_of_row _ (w.heap.size + 1 + 1 + 1) 0 _ _ rR
  have l1 := frozen_of_row _ (w.heap.size + 1 + 1 + 1) 1 _ _ rR
  have l2 := frozen_of_row _ (w.heap.size + 1 + 1 + 1) 2 _ _ rR
  have l3 := frozen_of_row _ (w.heap.size + 1 + 1 + 1) 3 _ _ rR
  simp only [List.getElem?_cons_zero, List.getElem?_cons_succ] at j1 j2 j3 j4 c0 c1 c2 c3 z0 z1 z2 z3
  clear rJ rF rR
  go_wp2_with fail
  all_goals first | (exfalso; omega) | skip
  have hr : Row ((((((w2.setCell ⟨w.heap.size + 1, 3, none⟩ (.int .i64 0)).setCell ⟨w.heap.size + 1, 2, none⟩ (.int .i64 (f2 + f3))).setCell ⟨w.heap.size + 1 + 1 + 1, 0, none⟩ (.int .i64 f0)).setCell ⟨w.heap.size + 1 + 1 + 1, 1, none⟩ (.int .i64 f1)).setCell ⟨w.heap.size + 1 + 1 + 1, 2, none⟩ (.int .i64 (f2 + f3))).setCell ⟨w.heap.size + 1 + 1 + 1, 3, none⟩ (.int .i64 0)) (w.heap.size + 1 + 1 + 1) 77 [.int .i64 f0, .int .i64 f1, .int .i64 (f2 + f3), .int .i64 0] := by
    simpa using ((((((RR2.out.other (3) (.int .i64 0) (g' := w.heap.size + 1) (by omega)).other (2) (.int .i64 (f2 + f3)) (g' := w.heap.size + 1) (by omega)).set 0 (.int .i64 f0)).set 1 (.int .i64 f1)).set 2 (.int .i64 (f2 + f3))).set 3 (.int .i64 0))
  have v0 := hr.cell 0
  have v1 := hr.cell 1
  have v2 := hr.cell 2
  have v3 := hr.cell 3
  simp only [List.getElem?_cons_zero, List.getElem?_cons_succ] at v0 v1 v2 v3
  refine bodyPost_ret (v := .agg #[.int .i64 f0, .int .i64 f1, .int .i64 (f2 + f3), .int .i64 0]) (by simp [results, Try.results54, go_sem, v0, v1, v2, v3]) rfl ⟨rfl, ?_⟩
  exact (((((((Below.andThen B0.out BQ.out (Nat.le_refl _)).setCell (p := ⟨w.heap.size + 1, 3, none⟩) (by dsimp only; omega) (.int .i64 0)).setCell (p := ⟨w.heap.size + 1, 2, none⟩) (by dsimp only; omega) (.int .i64 (f2 + f3))).setCell (p := ⟨w.heap.size + 1 + 1 + 1, 0, none⟩) (by dsimp only; omega) (.int .i64 f0)).setCell (p := ⟨w.heap.size + 1 + 1 + 1, 1, none⟩) (by dsimp only; omega) (.int .i64 f1)).setCell (p := ⟨w.heap.size + 1 + 1 + 1, 2, none⟩) (by dsimp only; omega) (.int .i64 (f2 + f3))).setCell (p := ⟨w.heap.size + 1 + 1 + 1, 3, none⟩) (by dsimp only; omega) (.int .i64 0))
set_option maxRecDepth 100000 in
set_option maxHeartbeats 1000000 in
theorem after_3_2h (n p0 p1 p2 p3 f0 f1 f2 f3 : Int) (hf : 0 ≤ f3 ∧ f3 ≤ 12) (ht : 0 ≤ f2 ∧ f2 ≤ p2) (hp : p2 ≤ 12) (hmin : p2 - f2 < f3) (w : World) :
    Calls Try.prog 54 #[.agg #[.int .i64 n, .int .i64 p0, .int .i64 p1, .int .i64 p2, .int .i64 p3], .agg #[.int .i64 f0, .int .i64 f1, .int .i64 f2, .int .i64 f3], .agg #[.int .i64 3, .int .i64 2]] w fun e w' => e = .returned (aggI (afterF [p0, p1, p2, p3] [f0, f1, f2, f3] 3 2)) ∧ Below w.heap.size w w' := by
  obtain ⟨V, hV, rJ, rF, rS, rR, hb, hsz⟩ := after_start w [.int .i64 n, .int .i64 p0, .int .i64 p1, .int .i64 p2, .int .i64 p3] [.int .i64 f0, .int .i64 f1, .int .i64 f2, .int .i64 f3] [.int .i64 3, .int .i64 2] [.int .i64 0, .int .i64 0, .int .i64 0, .int .i64 0]
  have e1 : IntKind.i64.wrap (p2 - f2) = p2 - f2 := i64_of _ (by omega) (by omega)
  have e2 : IntKind.i64.wrap (f3 - (p2 - f2)) = f3 - (p2 - f2) := i64_of _ (by omega) (by omega)
  have e3 : IntKind.i64.wrap (f2 + (p2 - f2)) = f2 + (p2 - f2) := i64_of _ (by omega) (by omega)
  have hm : min f3 (p2 - f2) = (p2 - f2) := by omega
  have FIN : Hid (aggI (afterF [p0, p1, p2, p3] [f0, f1, f2, f3] 3 2) = .agg #[.int .i64 f0, .int .i64 f1, .int .i64 (f2 + (p2 - f2)), .int .i64 (f3 - (p2 - f2))]) := Lib.hid (by simp [afterF, aggI, encI, hm])
  rw [FIN.out]
  have HV := Lib.hid hV
  have RJ := Lib.hid rJ
  have RF := Lib.hid rF
  have RR := Lib.hid rR
  have B0 := Lib.hid hb
  have s0 := rS.cell 0
  have s1 := rS.cell 1
  simp only [List.getElem?_cons_zero, List.getElem?_cons_succ] at s0 s1
  have u0 := Kl.cell rS.lt s0
  have u1 := Kl.cell rS.lt s1
  clear hV rJ rF rS rR hb hsz s0 s1
  go_enter Try.func54, Try.ntmps54
  go_wp2_with fail
  rw [← HV.out]
  refine wp_region_below (by kernel_rfl) (by kernel_rfl) ?_
  repeat (go_big_quiet_step (fail))
  refine wpQuiet_nil ?_
  rintro _ ⟨wq, rfl⟩
  have BQ := Lib.hid wq.h
  generalize wq.W = w2 at *
  clear u0 u1
  have q1 := (RF.out.below BQ.out RF.out.lt).cell 3
  have q2 := (RF.out.below BQ.out RF.out.lt).cell 2
  have q3 := (RJ.out.below BQ.out RJ.out.lt).cell 3
  simp only [List.getElem?_cons_zero, List.getElem?_cons_succ] at q1 q2 q3
  have u0 := Kl.cell (RF.out.below BQ.out RF.out.lt).lt q1
  have u1 := Kl.cell (RF.out.below BQ.out RF.out.lt).lt q2
  have u2 := Kl.cell (RJ.out.below BQ.out RJ.out.lt).lt q3
  clear q1 q2 q3
  go_wp2_with fail
  refine wp_region_below (by kernel_rfl) (by kernel_rfl) ?_
  repeat (go_big_quiet_step (fail))
  refine wpQuiet_nil ?_
  rintro _ ⟨wq, rfl⟩
  have BQ := Lib.hid (Below.andThen BQ.out wq.h (by have := BQ.out.size; have := RR.out.lt; omega))
  generalize wq.W = w2 at *
  clear u0 u1 u2
  have rJ := RJ.out.below BQ.out RJ.out.lt
  have rF := RF.out.below BQ.out RF.out.lt
  have rR := RR.out.below BQ.out RR.out.lt
  have RF2 := Lib.hid rF
  have RR2 := Lib.hid rR
  have j1 := rJ.cell 1
  have j2 := rJ.cell 2
  have j3 := rJ.cell 3
  have j4 := rJ.cell 4
  have c0 := rF.cell 0
  have c1 := rF.cell 1
  have c2 := rF.cell 2
  have c3 := rF.cell 3
  have z0 := rR.cell 0
  have z1 := rR.cell 1
  have z2 := rR.cell 2
  have z3 := rR.cell 3
  have k0 := frozen_of_row _ (w.heap.size + 1) 0 _ _ rF
  have k1 := frozen_of_row _ (w.heap.size + 1) 1 _ _ rF
  have k2 := frozen_of_row _ (w.heap.size + 1) 2 _ _ rF
  have k3 := frozen_of_row _ (w.heap.size + 1) 3 _ _ rF
  have l0 := frozen_of_row _ (w.heap.size + 1 + 1 + 1) 0 _ _ rR
  have l1 := frozen_of_row _ (w.heap.size + 1 + 1 + 1) 1 _ _ rR
  have l2 := frozen_of_row _ (w.heap.size + 1 + 1 + 1) 2 _ _ rR
  have l3 := frozen_of_row _ (w.heap.size + 1 + 1 + 1) 3 _ _ rR
  simp only [List.getElem?_cons_zero, List.getElem?_cons_succ] at j1 j2 j3 j4 c0 c1 c2 c3 z0 z1 z2 z3
  clear rJ rF rR
  go_wp2_with fail
  all_goals first | (exfalso; omega) | skip
  have hr : Row ((((((w2.setCell ⟨w.heap.size + 1, 3, none⟩ (.int .i64 (f3 - (p2 - f2)))).setCell ⟨w.heap.size + 1, 2, none⟩ (.int .i64 (f2 + (p2 - f2)))).setCell ⟨w.heap.size + 1 + 1 + 1, 0, none⟩ (.int .i64 f0)).setCell ⟨w.heap.size + 1 + 1 + 1, 1, none⟩ (.int .i64 f1)).setCell ⟨w.heap.size + 1 + 1 + 1, 2, none⟩ (.int .i64 (f2 + (p2 - f2)))).setCell ⟨w.heap.size + 1 + 1 + 1, 3, none⟩ (.int .i64 (f3 - (p2 - f2)))) (w.heap.size + 1 + 1 + 1) 77 [.int .i64 f0, .int .i64 f1, .int .i64 (f2 + (p2 - f2)), .int .i64 (f3 - (p2 - f2))] := by
    simpa using ((((((RR2.out.other (3) (.int .i64 (f3 - (p2 - f2))) (g' := w.heap.size + 1) (by omega)).other (2) (.int .i64 (f2 + (p2 - f2))) (g' := w.heap.size + 1) (by omega)).set 0 (.int .i64 f0)).set 1 (.int .i64 f1)).set 2 (.int .i64 (f2 + (p2 - f2)))).set 3 (.int .i64 (f3 - (p2 - f2))))
  have v0 := hr.cell 0
  have v1 := hr.cell 1
  have v2 := hr.cell 2
  have v3 := hr.cell 3
  simp only [List.getElem?_cons_zero, List.getElem?_cons_succ] at v0 v1 v2 v3
  refine bodyPost_ret (v := .agg #[.int .i64 f0, .int .i64 f1, .int .i64 (f2 + (p2 - f2)), .int .i64 (f3 - (p2 - f2))]) (by simp [results, Try.results54, go_sem, v0, v1, v2, v3]) rfl ⟨rfl, ?_⟩
  exact (((((((Below.andThen B0.out BQ.out (Nat.le_refl _)).setCell (p := ⟨w.heap.size + 1, 3, none⟩) (by dsimp only; omega) (.int .i64 (f3 - (p2 - f2)))).setCell (p := ⟨w.heap.size + 1, 2, none⟩) (by dsimp only; omega) (.int .i64 (f2 + (p2 - f2)))).setCell (p := ⟨w.heap.size + 1 + 1 + 1, 0, none⟩) (by dsimp only; omega) (.int .i64 f0)).setCell (p := ⟨w.heap.size + 1 + 1 + 1, 1, none⟩) (by dsimp only; omega) (.int .i64 f1)).setCell (p := ⟨w.heap.size + 1 + 1 + 1, 2, none⟩) (by dsimp only; omega) (.int .i64 (f2 + (p2 - f2)))).setCell (p := ⟨w.heap.size + 1 + 1 + 1, 3, none⟩) (by dsimp only; omega) (.int .i64 (f3 - (p2 - f2))))
theorem after_any (n : Int) (P F : List Int) (hP : P.length = 4) (hF : F.length = 4) (hfit : ∀ i, i < 4 → 0 ≤ F.getD i 0 ∧ F.getD i 0 ≤ P.getD i 0 ∧ P.getD i 0 ≤ 12) (f t : Int) (hf : -1 ≤ f ∧ f ≤ 3) (ht : -1 ≤ t ∧ t ≤ 3) (hne : f ≠ t) (w : World) :
    Calls Try.prog 54 #[.agg (#[.int .i64 n] ++ (P.map encI).toArray), aggI F, .agg #[.int .i64 f, .int .i64 t]] w fun e w' => e = .returned (aggI (afterF P F f t)) ∧ Below w.heap.size w w' := by
  obtain ⟨p0, p1, p2, p3, rfl⟩ := agg4 P hP
  obtain ⟨f0, f1, f2, f3, rfl⟩ := agg4 F hF
  have h0 := hfit 0 (by omega)
  have h1 := hfit 1 (by omega)
  have h2 := hfit 2 (by omega)
  have h3 := hfit 3 (by omega)
  simp only [List.getD_cons_zero, List.getD_cons_succ] at h0 h1 h2 h3
  have cf : f = -1 ∨ f = 0 ∨ f = 1 ∨ f = 2 ∨ f = 3 := by omega
  have ct : t = -1 ∨ t = 0 ∨ t = 1 ∨ t = 2 ∨ t = 3 := by omega
  rcases cf with rfl | rfl | rfl | rfl | rfl <;> rcases ct with rfl | rfl | rfl | rfl | rfl
  · exact absurd rfl hne
  · exact after_s_0 n p0 p1 p2 p3 f0 f1 f2 f3 w
  · exact after_s_1 n p0 p1 p2 p3 f0 f1 f2 f3 w
  · exact after_s_2 n p0 p1 p2 p3 f0 f1 f2 f3 w
  · exact after_s_3 n p0 p1 p2 p3 f0 f1 f2 f3 w
  · exact after_0_s n p0 p1 p2 p3 f0 f1 f2 f3 w
  · exact absurd rfl hne
  · rcases Int.lt_or_le (p1 - f1) f0 with h | h
    · exact after_0_1h n p0 p1 p2 p3 f0 f1 f2 f3 ⟨h0.1, by omega⟩ ⟨h1.1, h1.2.1⟩ h1.2.2 h w
    · exact after_0_1l n p0 p1 p2 p3 f0 f1 f2 f3 ⟨h0.1, by omega⟩ ⟨h1.1, h1.2.1⟩ h1.2.2 h w
  · rcases Int.lt_or_le (p2 - f2) f0 with h | h
    · exact after_0_2h n p0 p1 p2 p3 f0 f1 f2 f3 ⟨h0.1, by omega⟩ ⟨h2.1, h2.2.1⟩ h2.2.2 h w
    · exact after_0_2l n p0 p1 p2 p3 f0 f1 f2 f3 ⟨h0.1, by omega⟩ ⟨h2.1, h2.2.1⟩ h2.2.2 h w
  · rcases Int.lt_or_le (p3 - f3) f0 with h | h
    · exact after_0_3h n p0 p1 p2 p3 f0 f1 f2 f3 ⟨h0.1, by omega⟩ ⟨h3.1, h3.2.1⟩ h3.2.2 h w
    · exact after_0_3l n p0 p1 p2 p3 f0 f1 f2 f3 ⟨h0.1, by omega⟩ ⟨h3.1, h3.2.1⟩ h3.2.2 h w
  · exact after_1_s n p0 p1 p2 p3 f0 f1 f2 f3 w
  · rcases Int.lt_or_le (p0 - f0) f1 with h | h
    · exact after_1_0h n p0 p1 p2 p3 f0 f1 f2 f3 ⟨h1.1, by omega⟩ ⟨h0.1, h0.2.1⟩ h0.2.2 h w
    · exact after_1_0l n p0 p1 p2 p3 f0 f1 f2 f3 ⟨h1.1, by omega⟩ ⟨h0.1, h0.2.1⟩ h0.2.2 h w
  · exact absurd rfl hne
  · rcases Int.lt_or_le (p2 - f2) f1 with h | h
    · exact after_1_2h n p0 p1 p2 p3 f0 f1 f2 f3 ⟨h1.1, by omega⟩ ⟨h2.1, h2.2.1⟩ h2.2.2 h w
    · exact after_1_2l n p0 p1 p2 p3 f0 f1 f2 f3 ⟨h1.1, by omega⟩ ⟨h2.1, h2.2.1⟩ h2.2.2 h w
  · rcases Int.lt_or_le (p3 - f3) f1 with h | h
    · exact after_1_3h n p0 p1 p2 p3 f0 f1 f2 f3 ⟨h1.1, by omega⟩ ⟨h3.1, h3.2.1⟩ h3.2.2 h w
    · exact after_1_3l n p0 p1 p2 p3 f0 f1 f2 f3 ⟨h1.1, by omega⟩ ⟨h3.1, h3.2.1⟩ h3.2.2 h w
  · exact after_2_s n p0 p1 p2 p3 f0 f1 f2 f3 w
  · rcases Int.lt_or_le (p0 - f0) f2 with h | h
    · exact after_2_0h n p0 p1 p2 p3 f0 f1 f2 f3 ⟨h2.1, by omega⟩ ⟨h0.1, h0.2.1⟩ h0.2.2 h w
    · exact after_2_0l n p0 p1 p2 p3 f0 f1 f2 f3 ⟨h2.1, by omega⟩ ⟨h0.1, h0.2.1⟩ h0.2.2 h w
  · rcases Int.lt_or_le (p1 - f1) f2 with h | h
    · exact after_2_1h n p0 p1 p2 p3 f0 f1 f2 f3 ⟨h2.1, by omega⟩ ⟨h1.1, h1.2.1⟩ h1.2.2 h w
    · exact after_2_1l n p0 p1 p2 p3 f0 f1 f2 f3 ⟨h2.1, by omega⟩ ⟨h1.1, h1.2.1⟩ h1.2.2 h w
  · exact absurd rfl hne
  · rcases Int.lt_or_le (p3 - f3) f2 with h | h
    · exact after_2_3h n p0 p1 p2 p3 f0 f1 f2 f3 ⟨h2.1, by omega⟩ ⟨h3.1, h3.2.1⟩ h3.2.2 h w
    · exact after_2_3l n p0 p1 p2 p3 f0 f1 f2 f3 ⟨h2.1, by omega⟩ ⟨h3.1, h3.2.1⟩ h3.2.2 h w
  · exact after_3_s n p0 p1 p2 p3 f0 f1 f2 f3 w
  · rcases Int.lt_or_le (p0 - f0) f3 with h | h
    · exact after_3_0h n p0 p1 p2 p3 f0 f1 f2 f3 ⟨h3.1, by omega⟩ ⟨h0.1, h0.2.1⟩ h0.2.2 h w
    · exact after_3_0l n p0 p1 p2 p3 f0 f1 f2 f3 ⟨h3.1, by omega⟩ ⟨h0.1, h0.2.1⟩ h0.2.2 h w
  · rcases Int.lt_or_le (p1 - f1) f3 with h | h
    · exact after_3_1h n p0 p1 p2 p3 f0 f1 f2 f3 ⟨h3.1, by omega⟩ ⟨h1.1, h1.2.1⟩ h1.2.2 h w
    · exact after_3_1l n p0 p1 p2 p3 f0 f1 f2 f3 ⟨h3.1, by omega⟩ ⟨h1.1, h1.2.1⟩ h1.2.2 h w
  · rcases Int.lt_or_le (p2 - f2) f3 with h | h
    · exact after_3_2h n p0 p1 p2 p3 f0 f1 f2 f3 ⟨h3.1, by omega⟩ ⟨h2.1, h2.2.1⟩ h2.2.2 h w
    · exact after_3_2l n p0 p1 p2 p3 f0 f1 f2 f3 ⟨h3.1, by omega⟩ ⟨h2.1, h2.2.1⟩ h2.2.2 h w
  · exact absurd rfl hne
end Go.Proofs.Ytlamppplnojpbaa
