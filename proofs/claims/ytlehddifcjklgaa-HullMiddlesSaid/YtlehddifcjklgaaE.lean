import Derived.Test.YtlehddifcjklgaaD
import Derived.Maps.OwnIn
import Derived.Maps.OwnSet
import Derived.Maps.AppendAt
import Derived.RangeFuncNested
import Derived.RangeFuncBound
import Derived.RangeFuncCalls
import Derived.RangeFuncLeaves
import Derived.Shelf.Abstract
import Derived.Shelf.RegionOpen
import Derived.WalkKit
import Derived.OwnWalkIn
import Derived.TacticsInMore
import Derived.LoopNIn
import Derived.LoopIn
import Derived.Sort.QuietThIn
import Derived.Sort.QuietTacIn
import Derived.Sort.BigQuietIn
import Derived.WalkSpells
import Derived.WalkLawsBesides
import Derived.BigQuiet
import Derived.Deep.QuietTactic
import Derived.Lib.Hide
import Derived.Deep.RegionHeld3
import Derived.StillTailTactics
import Derived.Deep.LoopGhost
import Derived.Lib.IndexAny
namespace Go.Proofs.Ytlehddifcjklgaa
open Go.RowKit Go.Shelf
attribute [local go_sem] Oper.semAt_some
theorem two_set {W : World} {b : Nat} {x y x' y' : Value} (h0 : W.cell? ⟨b, 0, none⟩ = some x') (h1 : W.cell? ⟨b, 1, none⟩ = some y') :
    ((W.setCell ⟨b, 0, none⟩ x).setCell ⟨b, 1, none⟩ y).cell? ⟨b, 0, none⟩ = some x ∧ ((W.setCell ⟨b, 0, none⟩ x).setCell ⟨b, 1, none⟩ y).cell? ⟨b, 1, none⟩ = some y := by
  refine ⟨?_, ?_⟩
  · exact (World.cell?_setCell_other _ _ _ _ (by simp)).trans (World.cell?_setCell_same _ _ _ h0)
  · exact World.cell?_setCell_same _ _ _ (u := y') ((World.cell?_setCell_other _ _ _ _ (by simp)).trans h1)
set_option maxHeartbeats 400000 in
theorem whole_any (x : Int) (w : World) :
    Calls Try.prog 78 #[.int .i64 x] w fun e w' => e = .returned (.agg #[.int .i64 x, .int .i64 1]) ∧ Below w.heap.size w w' := by
  go_enter Try.func78, Try.ntmps78
  go_wp2_with fail
  exact bodyPost_ret (v := .agg #[.int .i64 x, .int .i64 1]) (by simp [results, Try.results78, go_sem]) rfl ⟨rfl, (Below.refl _ _).alloc (Nat.le_refl _) _⟩
theorem gcdI_pos {n d : Int} (h : 0 < d) : 0 < gcdI n d := by
  unfold gcdI
  have : Int.gcd n d ≠ 0 := by
    intro e
    rw [Int.gcd_eq_zero_iff] at e
    omega
  omega

set_option maxHeartbeats 400000 in
theorem fractionOf64_any (x d : Int) (w : World) (hx : Bd 4000000000000000000 x) (hd : Bd 4000000000000000000 d) (h0 : 0 < d) :
    Calls Try.prog 79 #[.int .i64 x, .int .i64 d] w fun e w' => e = .returned (.agg #[.int .i64 (frac x d).1, .int .i64 (frac x d).2]) ∧ Below w.heap.size w w' := by
  have g0 := gcdI_pos (n := x) h0
  have g1 : ¬ (gcdI x d = 0) := by omega
  have g2 : (gcdI x d == 0) = false := beq_eq_false_iff_ne.2 g1
  have e1 : IntKind.i64.wrap (x.tdiv (gcdI x d)) = x.tdiv (gcdI x d) := i64_bd hx.tdiv (by omega)
  have e2 : IntKind.i64.wrap (d.tdiv (gcdI x d)) = d.tdiv (gcdI x d) := i64_bd hd.tdiv (by omega)
  have fin : frac x d = (x.tdiv (gcdI x d), d.tdiv (gcdI x d)) := rfl
  have Fin := Lib.hid fin
  have G := Lib.hid (gcd64_any x d)
  have HX := Lib.hid hx
  have HD := Lib.hid hd
  clear fin hx hd
  generalize gcdI x d = g at *
  go_enter Try.func79, Try.ntmps79
  go_wp2_with fail
  refine (G.out _ HX.out HD.out).mono ?_
  rintro e w1 ⟨rfl, n, rfl⟩
  go_wp2_with fail
  go_region
  go_wp2_with fail
  have c0 : ((w.alloc (.cells #[.int .i64 0, .int .i64 0] 88)).drewN (n + 1)).cell? ⟨w.heap.size, 0, none⟩ = some (.int .i64 0) := by simp
  have c1 : ((w.alloc (.cells #[.int .i64 0, .int .i64 0] 88)).drewN (n + 1)).cell? ⟨w.heap.size, 1, none⟩ = some (.int .i64 0) := by simp
  obtain ⟨q0, q1⟩ := two_set (x := .int .i64 (x.tdiv g)) (y := .int .i64 (d.tdiv g)) c0 c1
  rw [Fin.out]
  refine bodyPost_ret (v := .agg #[.int .i64 (x.tdiv g), .int .i64 (d.tdiv g)]) (by simp [results, Try.results79, go_sem, q0, q1]) rfl ⟨rfl, ?_⟩
  exact ((below_drewN ((Below.refl w.heap.size w).alloc (Nat.le_refl _) _) _).setCell (p := ⟨w.heap.size, 0, none⟩) (Nat.le_refl _) _).setCell (p := ⟨w.heap.size, 1, none⟩) (Nat.le_refl _) _

set_option maxHeartbeats 400000 in
theorem fractionOf_any (x d : Int) (w : World) (hx : Bd 4000000000000000000 x) (hd : Bd 4000000000000000000 d) (h0 : 0 < d) :
    Calls Try.prog 96 #[.int .i64 x, .int .i64 d] w fun e w' => e = .returned (.agg #[.int .i64 (frac x d).1, .int .i64 (frac x d).2]) ∧ Below w.heap.size w w' := by
  have g0 := gcdI_pos (n := x) h0
  have g1 : ¬ (gcdI x d = 0) := by omega
  have g2 : (gcdI x d == 0) = false := beq_eq_false_iff_ne.2 g1
  have e1 : IntKind.i64.wrap (x.tdiv (gcdI x d)) = x.tdiv (gcdI x d) := i64_bd hx.tdiv (by omega)
  have e2 : IntKind.i64.wrap (d.tdiv (gcdI x d)) = d.tdiv (gcdI x d) := i64_bd hd.tdiv (by omega)
  have fin : frac x d = (x.tdiv (gcdI x d), d.tdiv (gcdI x d)) := rfl
  have Fin := Lib.hid fin
  have G := Lib.hid (gcd_any x d)
  have HX := Lib.hid hx
  have HD := Lib.hid hd
  clear fin hx hd
  generalize gcdI x d = g at *
  go_enter Try.func96, Try.ntmps96
  go_wp2_with fail
  refine (G.out _ HX.out HD.out).mono ?_
  rintro e w1 ⟨rfl, n, rfl⟩
  go_wp2_with fail
  go_region
  go_wp2_with fail
  have c0 : ((w.alloc (.cells #[.int .i64 0, .int .i64 0] 88)).drewN (n + 1)).cell? ⟨w.heap.size, 0, none⟩ = some (.int .i64 0) := by simp
  have c1 : ((w.alloc (.cells #[.int .i64 0, .int .i64 0] 88)).drewN (n + 1)).cell? ⟨w.heap.size, 1, none⟩ = some (.int .i64 0) := by simp
  obtain ⟨q0, q1⟩ := two_set (x := .int .i64 (x.tdiv g)) (y := .int .i64 (d.tdiv g)) c0 c1
  rw [Fin.out]
  refine bodyPost_ret (v := .agg #[.int .i64 (x.tdiv g), .int .i64 (d.tdiv g)]) (by simp [results, Try.results96, go_sem, q0, q1]) rfl ⟨rfl, ?_⟩
  exact ((below_drewN ((Below.refl w.heap.size w).alloc (Nat.le_refl _) _) _).setCell (p := ⟨w.heap.size, 0, none⟩) (Nat.le_refl _) _).setCell (p := ⟨w.heap.size, 1, none⟩) (Nat.le_refl _) _

set_option maxHeartbeats 400000 in
theorem less_any (a b c d : Int) (w : World) (h1 : Bd 4000000000000000000 (a * d)) (h2 : Bd 4000000000000000000 (c * b)) :
    Calls Try.prog 75 #[.agg #[.int .i64 a, .int .i64 b], .agg #[.int .i64 c, .int .i64 d]] w fun e w' => e = .returned (.bool (lessF (a, b) (c, d))) ∧ Below w.heap.size w w' := by
  have e1 := i64_bd h1 (by omega)
  have e2 := i64_bd h2 (by omega)
  have fin : lessF (a, b) (c, d) = decide (a * d < c * b) := rfl
  have Fin := Lib.hid fin
  clear fin h1 h2
  go_enter Try.func75, Try.ntmps75
  go_wp2_with fail
  go_ret
  exact ⟨ret_bool (by rw [Fin.out]), ((Below.refl w.heap.size w).alloc (Nat.le_refl _) _).alloc (by simp) _⟩

set_option maxHeartbeats 800000 in
theorem within_any (a b lo hi : Int) (w : World) (ha : Bd 1000000000000000000 a) (hb : Bd 1000000000 b) (hl : Bd 1000000000 lo) (hh : Bd 1000000000 hi) :
    Calls Try.prog 100 #[.agg #[.int .i64 a, .int .i64 b], .agg #[.int .i64 lo, .int .i64 1], .agg #[.int .i64 hi, .int .i64 1]] w fun e w' => e = .returned (.bool (withinF (a, b) (lo, 1) (hi, 1))) ∧ Below w.heap.size w w' := by
  have k1 := Lib.hid (show Bd 4000000000000000000 (a * 1) by rw [Int.mul_one]; exact ha.mono (by omega))
  have k2 := Lib.hid ((hl.mul hb).mono (C := 4000000000000000000) (by omega))
  have k3 := Lib.hid ((hh.mul hb).mono (C := 4000000000000000000) (by omega))
  have fin : withinF (a, b) (lo, 1) (hi, 1) = (!lessF (a, b) (lo, 1) && !lessF (hi, 1) (a, b)) := rfl
  have Fin := Lib.hid fin
  clear fin ha hb hl hh
  go_enter Try.func100, Try.ntmps100
  go_wp2_with fail
  obtain ⟨W0, hW0⟩ : ∃ W0, W0 = ((w.alloc (.cells #[.int .i64 a, .int .i64 b] 88)).alloc (.cells #[.int .i64 lo, .int .i64 1] 88)).alloc (.cells #[.int .i64 hi, .int .i64 1] 88) := ⟨_, rfl⟩
  have B0 := Lib.hid (show Below w.heap.size w W0 by rw [hW0]; exact ((((Below.refl w.heap.size w).alloc (Nat.le_refl _) _).alloc (by simp) _).alloc (by simp; omega) _))
  have sz := Lib.hid (show W0.heap.size = w.heap.size + 3 by rw [hW0]; simp)
  have P : Hid (∀ W, Below W0.heap.size W0 W → W.cell? ⟨w.heap.size, 0, none⟩ = some (.int .i64 a) ∧ W.cell? ⟨w.heap.size, 1, none⟩ = some (.int .i64 b) ∧ W.cell? ⟨w.heap.size + 1, 0, none⟩ = some (.int .i64 lo) ∧ W.cell? ⟨w.heap.size + 1, 1, none⟩ = some (.int .i64 1) ∧ W.cell? ⟨w.heap.size + 2, 0, none⟩ = some (.int .i64 hi) ∧ W.cell? ⟨w.heap.size + 2, 1, none⟩ = some (.int .i64 1)) := Lib.hid (fun W h => by
    have hsz := sz.out
    refine ⟨below_at h (by omega) ?_, below_at h (by omega) ?_, below_at h (by omega) ?_, below_at h (by omega) ?_, below_at h (by omega) ?_, below_at h (by omega) ?_⟩ <;> (rw [hW0]; simp [cell_al] <;> (intro h; omega)))
  rw [← hW0]
  clear hW0
  obtain ⟨p0, p1, p2, p3, p4, p5⟩ := P.out W0 (Below.refl _ _)
  have T0 := Lib.hid (Below.refl W0.heap.size W0)
  refine (less_any a b lo 1 W0 k1.out k2.out).mono ?_
  rintro e w1 ⟨rfl, hb⟩
  have T1 := Lib.hid (Below.andThen T0.out hb (Nat.le_refl _))
  clear hb T0 p0 p1 p2 p3 p4 p5
  obtain ⟨p0, p1, p2, p3, p4, p5⟩ := P.out w1 T1.out
  cases h1 : lessF (a, b) (lo, 1)
  · have H1 := Lib.hid h1
    clear h1
    go_wp2_with fail
    refine (less_any hi 1 a b _ k3.out k1.out).mono ?_
    rintro e w2 ⟨rfl, hb⟩
    have T2 := Lib.hid (Below.andThen T1.out hb (Nat.le_refl _))
    clear hb
    go_wp2_with fail
    go_ret
    exact ⟨ret_bool (by rw [Fin.out, H1.out]; rfl), Below.andThen B0.out T2.out (Nat.le_refl _)⟩
  · have H1 := Lib.hid h1
    clear h1
    go_wp2_with fail
    go_ret
    exact ⟨ret_bool (by rw [Fin.out, H1.out]; rfl), Below.andThen B0.out T1.out (Nat.le_refl _)⟩

set_option maxHeartbeats 800000 in
theorem plus_any (a b c d : Int) (w : World) (h1 : Bd 1000000000000000000 (a * d)) (h2 : Bd 1000000000000000000 (c * b)) (h3 : Bd 4000000000000000000 (b * d)) (h0 : 0 < b * d) :
    Calls Try.prog 95 #[.agg #[.int .i64 a, .int .i64 b], .agg #[.int .i64 c, .int .i64 d]] w fun e w' => e = .returned (.agg #[.int .i64 (frac (a * d + c * b) (b * d)).1, .int .i64 (frac (a * d + c * b) (b * d)).2]) ∧ Below w.heap.size w w' := by
  have h4 := (h1.add h2)
  have e1 := i64_bd h1 (by omega)
  have e2 := i64_bd h2 (by omega)
  have e3 := i64_bd h3 (by omega)
  have e4 := i64_bd h4 (by omega)
  have k1 := Lib.hid (h4.mono (C := 4000000000000000000) (by omega))
  have k2 := Lib.hid h3
  have k3 := Lib.hid h0
  clear h1 h2 h3 h4 h0
  obtain ⟨fn, fd, hf⟩ : ∃ fn fd, frac (a * d + c * b) (b * d) = (fn, fd) := ⟨_, _, rfl⟩
  rw [hf]
  have HF := Lib.hid hf
  clear hf
  dsimp only
  go_enter Try.func95, Try.ntmps95
  go_wp2_with fail
  obtain ⟨W0, hW0⟩ : ∃ W0, W0 = ((w.alloc (.cells #[.int .i64 a, .int .i64 b] 88)).alloc (.cells #[.int .i64 c, .int .i64 d] 88)).alloc (.cells #[.int .i64 0, .int .i64 0] 88) := ⟨_, rfl⟩
  have B0 := Lib.hid (show Below w.heap.size w W0 by rw [hW0]; exact ((((Below.refl w.heap.size w).alloc (Nat.le_refl _) _).alloc (by simp) _).alloc (by simp; omega) _))
  have sz := Lib.hid (show W0.heap.size = w.heap.size + 3 by rw [hW0]; simp)
  have P : Hid (∀ W, Below W0.heap.size W0 W → W.cell? ⟨w.heap.size, 0, none⟩ = some (.int .i64 a) ∧ W.cell? ⟨w.heap.size, 1, none⟩ = some (.int .i64 b) ∧ W.cell? ⟨w.heap.size + 1, 0, none⟩ = some (.int .i64 c) ∧ W.cell? ⟨w.heap.size + 1, 1, none⟩ = some (.int .i64 d) ∧ W.cell? ⟨w.heap.size + 2, 0, none⟩ = some (.int .i64 0) ∧ W.cell? ⟨w.heap.size + 2, 1, none⟩ = some (.int .i64 0)) := Lib.hid (fun W h => by
    have hsz := sz.out
    refine ⟨below_at h (by omega) ?_, below_at h (by omega) ?_, below_at h (by omega) ?_, below_at h (by omega) ?_, below_at h (by omega) ?_, below_at h (by omega) ?_⟩ <;> (rw [hW0]; simp [cell_al] <;> (intro h; omega)))
  have fz0 : W0.frozen? ⟨w.heap.size + 2, 0, none⟩ = false := by rw [hW0]; simp [frozen_al]
  have fz1 : W0.frozen? ⟨w.heap.size + 2, 1, none⟩ = false := by rw [hW0]; simp [frozen_al]
  rw [← hW0]
  clear hW0
  obtain ⟨p0, p1, p2, p3, p4, p5⟩ := P.out W0 (Below.refl _ _)
  have f0 : W0.frozen? ⟨w.heap.size + 2, 0, none⟩ = false := fz0
  have f1 : W0.frozen? ⟨w.heap.size + 2, 1, none⟩ = false := fz1
  have hc := fractionOf64_any _ _ W0 k1.out k2.out k3.out
  rw [HF.out] at hc
  dsimp only at hc
  refine hc.mono ?_
  rintro e w1 ⟨rfl, hb⟩
  have g0 := (hb.frozen (p := ⟨w.heap.size + 2, 0, none⟩) (show w.heap.size + 2 < W0.heap.size by have := sz.out; omega)).trans f0
  have g1 := (hb.frozen (p := ⟨w.heap.size + 2, 1, none⟩) (show w.heap.size + 2 < W0.heap.size by have := sz.out; omega)).trans f1
  have T1 := Lib.hid hb
  clear hb p0 p1 p2 p3 p4 p5 f0 f1
  obtain ⟨p0, p1, p2, p3, p4, p5⟩ := P.out w1 T1.out
  clear hc
  go_wp2_with fail
  obtain ⟨q0, q1⟩ := two_set (x := .int .i64 fn) (y := .int .i64 fd) p4 p5
  refine bodyPost_ret (v := .agg #[.int .i64 fn, .int .i64 fd]) (by simp [results, Try.results95, go_sem, q0, q1]) rfl ⟨rfl, ?_⟩
  exact ((Below.andThen B0.out T1.out (Nat.le_refl _)).setCell (p := ⟨w.heap.size + 2, 0, none⟩) (by simp) _).setCell (p := ⟨w.heap.size + 2, 1, none⟩) (by simp) _
end Go.Proofs.Ytlehddifcjklgaa
