import Derived.Test.YtlehddifcjklgaaAd
import Derived.Maps.OwnIn
import Derived.Maps.OwnSet
import Derived.Maps.AppendAt
import Derived.RangeFuncNested
import Derived.RangeFuncBound
import Derived.RangeFuncCalls
import Derived.RangeFuncLeaves
import Derived.Shelf.Abstract
import Derived.Shelf.RegionOpen
import Derived.WalkKit
import Derived.OwnWalkIn
import Derived.TacticsInMore
import Derived.LoopNIn
import Derived.LoopIn
import Derived.WalkMore
import Derived.Sort.QuietThIn
import Derived.Sort.QuietTacIn
import Derived.Sort.BigQuietIn
import Derived.WalkSpells
import Derived.WalkLawsBesides
import Derived.BigQuiet
import Derived.Deep.QuietTactic
import Derived.Lib.Hide
import Derived.Deep.RegionHeld3
import Derived.StillTailTactics
import Derived.Deep.LoopGhost
import Derived.Lib.IndexAny
namespace Go.Proofs.Ytlehddifcjklgaa
open Go.RowKit Go.Shelf
attribute [local go_sem] Oper.semAt_some
def flat : List Pt → List Value
  | [] => []
  | p :: ps => .int .i64 p.1 :: .int .i64 p.2 :: flat ps
theorem flat_get : ∀ (ps : List Pt) (i : Nat) (h : i < ps.length), (flat ps)[i * 2]? = some (.int .i64 ps[i].1) ∧ (flat ps)[i * 2 + 1]? = some (.int .i64 ps[i].2)
  | p :: ps, 0, _ => ⟨rfl, rfl⟩
  | p :: ps, i + 1, h => by
    have := flat_get ps i (by simpa using h)
    rw [show (i + 1) * 2 = i * 2 + 2 by omega]
    simpa [flat] using this
theorem ptsAt_row {W : World} {b t : Nat} {ps : List Pt} (h : Row W b t (flat ps)) : PtsAt W b 0 ps :=
  ⟨h.lt, fun i hi => by rw [Nat.zero_add, h.cell]; exact (flat_get ps i hi).1, fun i hi => by rw [Nat.zero_add, h.cell]; exact (flat_get ps i hi).2⟩
def twoP : List Pt := [(-2, 4), (0, 4)]
theorem aw_chk1 : chk boxP = true := by kernel_rfl
theorem aw_chk2 : chk thinP = true := by kernel_rfl
theorem aw_area : area boxP = 16 := by kernel_rfl
theorem aw_mid : mid boxP = (2, 1, 1) := by kernel_rfl
theorem aw_lean : leanF boxP (mid boxP) 1 = (4, 1) := by kernel_rfl
theorem aw_firm : sidesL (firmB thinP (mid thinP)) thinP.length = [0, 1] := by kernel_rfl
theorem aw_roll : rollF thinP (mid thinP) 5 2 = some [2, 1] := by kernel_rfl
theorem aw_pos1 : 0 < area boxP := by rw [aw_area]; omega
theorem aw_area2 : area thinP = 9 := by kernel_rfl
theorem aw_pos2 : 0 < area thinP := by rw [aw_area2]; omega
theorem aw_twr : twrB twoP = true := by kernel_rfl
theorem aw_stand : standF twoP = (0, false) := by kernel_rfl
theorem aw_har : harF 3 = (11, 6) := by kernel_rfl
theorem aw_Area (b : Nat) (W : World) (h : PtsAt W b 0 boxP) : Calls Try.prog 21 #[.slice (some ⟨b, 0, none⟩) 4 4] W fun e w' => e = .returned (.tuple #[.int .i64 16, .int .i64 0]) ∧ Below W.heap.size W w' := by
  have := area_any boxP b 4 W h aw_chk1
  rw [aw_area] at this; exact this
theorem aw_Middle (b : Nat) (W : World) (h : PtsAt W b 0 boxP) : Calls Try.prog 22 #[.slice (some ⟨b, 0, none⟩) 4 4] W fun e w' => e = .returned (.tuple #[.agg #[.int .i64 2, .int .i64 1, .int .i64 1], .int .i64 0]) ∧ Below W.heap.size W w' := by
  have := Middle_any boxP b 4 W h aw_chk1 aw_pos1
  rw [aw_mid] at this; exact this
theorem aw_Lean (b : Nat) (W : World) (h : PtsAt W b 0 boxP) : Calls Try.prog 30 #[.slice (some ⟨b, 0, none⟩) 4 4, .int .i64 1] W fun e w' => e = .returned (.tuple #[.agg #[.int .i64 4, .int .i64 1], .int .i64 0]) ∧ Below W.heap.size W w' := by
  have := Lean_any boxP b 4 1 W h aw_chk1 aw_pos1 (by decide)
  rw [aw_lean] at this; exact this
theorem aw_Firm (b : Nat) (W : World) (h : PtsAt W b 0 thinP) : Calls Try.prog 24 #[.slice (some ⟨b, 0, none⟩) 3 3] W fun e w' => ∃ v, e = .returned (.tuple #[v, .int .i64 0]) ∧ w'.ownsRow W.heap.size 3 1 v 2 (([0, 1] : List Int).map encI) ∧ Below W.heap.size W w' := by
  have := Firm_any thinP b 3 W h aw_chk2 aw_pos2
  rw [aw_firm] at this; exact this
theorem aw_Roll (b : Nat) (W : World) (h : PtsAt W b 0 thinP) : Calls Try.prog 29 #[.slice (some ⟨b, 0, none⟩) 3 3, .int .i64 2] W fun e w' => ∃ v, e = .returned (.tuple #[v, .int .i64 0]) ∧ w'.ownsRow W.heap.size 3 1 v 2 (([2, 1] : List Int).map encI) ∧ Below W.heap.size W w' :=
  Roll_any thinP b 3 2 5 [2, 1] W h aw_chk2 aw_pos2 (by decide) aw_roll (by decide)
theorem aw_Stands (b : Nat) (W : World) (h : PtsAt W b 0 twoP) : Calls Try.prog 48 #[.slice (some ⟨b, 0, none⟩) 2 2] W fun e w' => e = .returned (.tuple #[.int .i64 0, .bool false, .int .i64 0]) ∧ Below W.heap.size W w' := by
  have := Stands_any twoP b 2 W h (by decide) aw_twr
  rw [aw_stand] at this; exact this
theorem aw_Harmonic (W : World) : Calls Try.prog 55 #[.int .i64 3] W fun e w' => e = .returned (.tuple #[.agg #[.int .i64 11, .int .i64 6], .int .i64 0]) ∧ Below W.heap.size W w' := by
  have := Harmonic_any 3 W (by omega) (by omega)
  rw [aw_har] at this; exact this
theorem aw_nil (W : World) : Calls Try.prog 47 #[.slice none 0 0] W fun e w' => e = .returned (.int .i64 31) ∧ Below W.heap.size W w' := by
  have := CheckTower_short [] none 0 W (by simp) (by simp)
  exact this
theorem aw_ints (v : Value) (zs : List Int) (W : World) (n₀ h : Nat) (a b : Int) (hv : W.ownsRow n₀ 3 1 v 2 (([a, b] : List Int).map encI)) (hh : Row W h 3 [.int .i64 a, .int .i64 b]) :
    Calls Try.prog 34 #[v, .slice (some ⟨h, 0, none⟩) 2 2] W fun e w' => e = .returned (.bool true) ∧ Below W.heap.size W w' := by
  obtain ⟨g, cap, rfl, hlt, hi⟩ := own_ints hv (by simp)
  have hy : IntsAt W h 0 [a, b] := ⟨.inr hh.lt, fun i hi => by
    rw [Nat.zero_add, hh.cell]
    rcases i with _ | _ | i
    · rfl
    · rfl
    · simp at hi; omega⟩
  have := ints_any [a, b] [a, b] g h cap 2 W hi hy rfl (by simp)
  rw [show decide (([a, b] : List Int) = [a, b]) = true from decide_eq_true rfl] at this
  exact this
set_option maxRecDepth 100000 in
set_option maxHeartbeats 4000000 in
theorem awake_any (w : World) : Calls Try.prog 28 #[] w fun e w' => e = .returned (.bool true) ∧ Below w.heap.size w w' := by
  go_enter Try.func28, Try.ntmps28
  go_wp2_with fail
  obtain ⟨W0, hW0⟩ : ∃ W0, W0 = (w.alloc (.cells #[.int .i64 0, .int .i64 0, .int .i64 4, .int .i64 0, .int .i64 4, .int .i64 2, .int .i64 0, .int .i64 2] 58)).alloc (.cells #[.int .i64 0, .int .i64 0, .int .i64 9, .int .i64 0, .int .i64 1, .int .i64 1] 58) := ⟨_, rfl⟩
  have B0 := Lib.hid (show Below w.heap.size w W0 by rw [hW0]; exact ((Below.refl w.heap.size w).alloc (Nat.le_refl _) _).alloc (by simp) _)
  have P : Hid (∀ W, Below W0.heap.size W0 W → PtsAt W w.heap.size 0 boxP ∧ PtsAt W (w.heap.size + 1) 0 thinP) := Lib.hid (fun W h => by
    have r1 : Row (w.alloc (.cells #[.int .i64 0, .int .i64 0, .int .i64 4, .int .i64 0, .int .i64 4, .int .i64 2, .int .i64 0, .int .i64 2] 58)) w.heap.size 58 (flat boxP) := Row.new w 58 (flat boxP)
    have r2 : Row W0 w.heap.size 58 (flat boxP) := by rw [hW0]; exact r1.below ((Below.refl _ _).alloc (Nat.le_refl _) _) (by simp)
    have r3 : Row W0 (w.heap.size + 1) 58 (flat thinP) := by
      have := Row.new (w.alloc (.cells #[.int .i64 0, .int .i64 0, .int .i64 4, .int .i64 0, .int .i64 4, .int .i64 2, .int .i64 0, .int .i64 2] 58)) 58 (flat thinP)
      rw [size_al] at this
      rw [hW0]; exact this
    exact ⟨ptsAt_row (r2.below h r2.lt), ptsAt_row (r3.below h r3.lt)⟩)
  rw [← hW0]
  clear hW0
  have T0 := Lib.hid (Below.refl W0.heap.size W0)
  refine (aw_Area _ W0 (P.out W0 T0.out).1).mono ?_
  rintro e w1 ⟨rfl, hb⟩
  have T1 := Lib.hid (Below.andThen T0.out hb (Nat.le_refl _))
  clear hb T0
  go_wp2_with fail
  refine (aw_Middle _ w1 (P.out w1 T1.out).1).mono ?_
  rintro e w2 ⟨rfl, hb⟩
  have T2 := Lib.hid (Below.al (Below.andThen T1.out hb (Nat.le_refl _)) (Nat.le_refl _) (.cells #[.int .i64 2, .int .i64 1, .int .i64 1] 29))
  have R2 := Lib.hid (Row.new w2 29 [.int .i64 2, .int .i64 1, .int .i64 1])
  clear hb T1
  go_wp2_with fail
  generalize w2.alloc (.cells #[.int .i64 2, .int .i64 1, .int .i64 1] 29) = V2 at *
  refine (aw_Lean _ V2 (P.out V2 T2.out).1).mono ?_
  rintro e w3 ⟨rfl, hb⟩
  have T3 := Lib.hid (Below.al (Below.andThen T2.out hb (Nat.le_refl _)) (Nat.le_refl _) (.cells #[.int .i64 4, .int .i64 1] 39))
  have hs3 := Lib.hid hb.size
  have R2b := Lib.hid ((R2.out.below hb R2.out.lt).below (B := w3.heap.size) ((Below.refl _ _).alloc (Nat.le_refl _) (.cells #[.int .i64 4, .int .i64 1] 39)) (Nat.lt_of_lt_of_le R2.out.lt hb.size))
  have R3 := Lib.hid (Row.new w3 39 [.int .i64 4, .int .i64 1])
  clear hb T2 R2
  go_wp2_with fail
  generalize w3.alloc (.cells #[.int .i64 4, .int .i64 1] 39) = V3 at *
  refine (aw_Firm _ V3 (P.out V3 T3.out).2).mono ?_
  rintro e w4 ⟨vf, rfl, hr, hb⟩
  have T4 := Lib.hid (Below.andThen T3.out hb (Nat.le_refl _))
  have R2c := Lib.hid (R2b.out.below hb R2b.out.lt)
  have R3c := Lib.hid (R3.out.below hb R3.out.lt)
  have O4 := Lib.hid hr
  clear hb hr T3 R2b R3
  go_wp2_with fail
  refine (aw_Roll _ w4 (P.out w4 T4.out).2).mono ?_
  rintro e w5 ⟨vr, rfl, hr, hb⟩
  have T5 := Lib.hid (Below.al (Below.andThen T4.out hb (Nat.le_refl _)) (Nat.le_refl _) (.cells #[.int .i64 (-2), .int .i64 4, .int .i64 0, .int .i64 4] 58))
  have hal := Lib.hid (show Below w5.heap.size w5 (w5.alloc (.cells #[.int .i64 (-2), .int .i64 4, .int .i64 0, .int .i64 4] 58)) from (Below.refl _ _).alloc (Nat.le_refl _) _)
  have R2d := Lib.hid ((R2c.out.below hb R2c.out.lt).below hal.out (Nat.lt_of_lt_of_le R2c.out.lt hb.size))
  have R3d := Lib.hid ((R3c.out.below hb R3c.out.lt).below hal.out (Nat.lt_of_lt_of_le R3c.out.lt hb.size))
  have O4b := Lib.hid (own_grow (own_grow O4.out hb) hal.out)
  have O5 := Lib.hid (own_grow hr hal.out)
  have RT := Lib.hid (Row.new w5 58 (flat twoP))
  clear hb hr T4 R2c R3c O4
  go_wp2_with fail
  refine (aw_Stands w5.heap.size _ (ptsAt_row RT.out)).mono ?_
  rintro e w6 ⟨rfl, hb⟩
  have T6 := Lib.hid (Below.andThen T5.out hb (Nat.le_refl _))
  have R2e := Lib.hid (R2d.out.below hb R2d.out.lt)
  have R3e := Lib.hid (R3d.out.below hb R3d.out.lt)
  have O4c := Lib.hid (own_grow O4b.out hb)
  have O5b := Lib.hid (own_grow O5.out hb)
  clear hb T5 R2d R3d O4b O5 RT hal
  go_wp2_with fail
  refine (aw_Harmonic w6).mono ?_
  rintro e w7 ⟨rfl, hb⟩
  obtain ⟨V7, hV7⟩ : ∃ V7, V7 = w7.alloc (.cells #[.int .i64 11, .int .i64 6] 39) := ⟨_, rfl⟩
  obtain ⟨V8, hV8⟩ : ∃ V8, V8 = V7.alloc (.cells #[.int .i64 0, .int .i64 1] 3) := ⟨_, rfl⟩
  have b67 : Below w6.heap.size w6 V7 := by rw [hV7]; exact Below.al hb (Nat.le_refl _) _
  have r7 : Row V7 w7.heap.size 39 [.int .i64 11, .int .i64 6] := by rw [hV7]; exact Row.new _ _ _
  have b78 : Below V7.heap.size V7 V8 := by rw [hV8]; exact (Below.refl _ _).alloc (Nat.le_refl _) _
  have q2 := R2e.out.below b67 R2e.out.lt
  have q3 := R3e.out.below b67 R3e.out.lt
  obtain ⟨m0, m1, m2⟩ := (show _ ∧ _ ∧ _ from ⟨q2.cell 0, q2.cell 1, q2.cell 2⟩)
  obtain ⟨n0, n1, _, _⟩ := two_cells q3
  simp only [List.getElem?_cons_zero, List.getElem?_cons_succ] at m0 m1 m2
  rw [hV7] at m0 m1 m2 n0 n1
  have s29 : ∀ W, (Op.equalIn 10000 29 (.agg #[.int .i64 2, .int .i64 1, .int .i64 1]) (.agg #[.int .i64 2, .int .i64 1, .int .i64 1])).run Try.prog W = .ok true W := fun W => by kernel_rfl
  have s39 : ∀ W, (Op.equalIn 10000 39 (.agg #[.int .i64 4, .int .i64 1]) (.agg #[.int .i64 4, .int .i64 1])).run Try.prog W = .ok true W := fun W => by kernel_rfl
  have s39b : ∀ W, (Op.equalIn 10000 39 (.agg #[.int .i64 11, .int .i64 6]) (.agg #[.int .i64 11, .int .i64 6])).run Try.prog W = .ok true W := fun W => by kernel_rfl
  have s7 : V7.heap.size = w7.heap.size + 1 := by rw [hV7, size_al]
  have r8 : Row V8 (w7.heap.size + 1) 3 [.int .i64 0, .int .i64 1] := by
    have h0 : Row V8 V7.heap.size 3 [.int .i64 0, .int .i64 1] := by rw [hV8]; exact Row.new _ _ _
    rw [s7] at h0; exact h0
  have R8 := Lib.hid r8
  have R7 := Lib.hid (r7.below b78 r7.lt)
  have OF := Lib.hid (own_grow (own_grow O4c.out b67) b78)
  have OR := Lib.hid (own_grow (own_grow O5b.out b67) b78)
  have T8 := Lib.hid (Below.andThen (Below.andThen T6.out b67 (Nat.le_refl _)) b78 (Nat.le_refl _))
  clear hb r7 r8 b67 b78 q2 q3 s7 R2e R3e O4c O5b
  go_wp2_with fail
  rw [← hV7, ← hV8]
  clear m0 m1 m2 n0 n1 hV7 hV8
  refine (aw_ints vf [0, 1] V8 _ _ 0 1 OF.out R8.out).mono ?_
  rintro e w9 ⟨rfl, hb⟩
  obtain ⟨V9, hV9⟩ : ∃ V9, V9 = w9.alloc (.cells #[.int .i64 2, .int .i64 1] 3) := ⟨_, rfl⟩
  have b9 : Below V8.heap.size V8 V9 := by rw [hV9]; exact Below.al hb (Nat.le_refl _) _
  have R9 := Lib.hid (show Row V9 w9.heap.size 3 [.int .i64 2, .int .i64 1] by rw [hV9]; exact Row.new _ _ _)
  have R7b := Lib.hid (R7.out.below b9 R7.out.lt)
  have OR9 := Lib.hid (own_grow OR.out b9)
  have T9 := Lib.hid (Below.andThen T8.out b9 (Nat.le_refl _))
  clear hb b9 OF OR R7 R8 T8 T6
  go_wp2_with fail
  rw [← hV9]
  clear hV9
  refine (aw_ints vr [2, 1] V9 _ _ 2 1 OR9.out R9.out).mono ?_
  rintro e w10 ⟨rfl, hb⟩
  obtain ⟨k0, k1, _, _⟩ := two_cells (R7b.out.below hb R7b.out.lt)
  have T10 := Lib.hid (Below.andThen T9.out hb (Nat.le_refl _))
  clear hb OR9 R9 T9
  go_wp2_with fail
  refine (check_nil _).mono ?_
  rintro e w11 ⟨rfl, hb⟩
  have T11 := Lib.hid (Below.andThen T10.out hb (Nat.le_refl _))
  clear hb T10 k0 k1 R7b
  go_wp2_with fail
  refine (aw_nil _).mono ?_
  rintro e w12 ⟨rfl, hb⟩
  have T12 := Lib.hid (Below.andThen T11.out hb (Nat.le_refl _))
  clear hb T11
  go_wp2_with fail
  go_ret
  exact ⟨rfl, Below.andThen B0.out T12.out (Nat.le_refl _)⟩
end Go.Proofs.Ytlehddifcjklgaa
