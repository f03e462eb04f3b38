import Derived.Test.YtlemipnplgbckaaPH
import Derived.Test.YtlemipnplgbckaaPJ
import Derived.Test.YtlemipnplgbckaaPI
import Derived.Test.YtlemipnplgbckaaCB
import Derived.Laws.AppendOwn
import Derived.ChangeKeysEq
import Derived.Maps.RangeWalk
import Derived.Maps.OwnIn
import Derived.Maps.AppendAt
import Derived.RangeFuncNested
import Derived.RangeFuncBound
import Derived.RangeFuncCalls
import Derived.RangeFuncLeaves
import Derived.Shelf.Abstract
import Derived.Shelf.RegionOpen
import Derived.WalkKit
import Derived.WalkMore
import Derived.OwnWalkIn
import Derived.TacticsInMore
import Derived.LoopNIn
import Derived.LoopIn
import Derived.WalkSpells
import Derived.WalkLawsBesides
import Derived.BigQuiet
import Derived.Deep.QuietTactic
import Derived.Lib.Hide
import Derived.Deep.RegionHeld3
import Derived.StillTailTactics
import Derived.Deep.LoopGhost
import Derived.Maps.OwnSet
import Derived.Lib.IndexAny
import Derived.Sort.QuietThIn
import Derived.Sort.QuietTacIn
import Derived.Sort.BigQuietIn
import Derived.Laws.OwnMore
import Derived.DeepKeys4
import Derived.Maps.Views
import Derived.Maps.OwnOps
import Derived.Laws.OwnMore
import Derived.Deep.DeepCutAuto
import Derived.ChangeKeysEq
namespace Go.Proofs.Ytlemipnplgbckaa
open Go.RowKit Go.Shelf
attribute [local go_sem] Oper.semAt_some
theorem sm1 : smC [(0, 0), (4, 0)] = ⟨2, 0, 1, 4⟩ := by decide +kernel
theorem sm2 : smC [(0, 0), (4, 0), (2, 3)] = ⟨12, 5, 6, 169⟩ := by decide +kernel
theorem tr1 : trC (0, 0) (2, 0) (0, 2) = ⟨1, 1, 1, 2⟩ ∧ trE (0, 0) (2, 0) (0, 2) = 0 := by decide +kernel
theorem em1 : (emptyL [(0, 0), (2, 0), (0, 2), (2, 2)]).length = 4 := by decide +kernel
theorem fo0 : ((List.range 3).all fun i => (List.range 3).all fun j => (List.range 3).all fun k => !(decide (i ≤ j) && (decide (j ≤ k) && fB [(0, 0), (4, 0), (1, 1)] (smC [(0, 0), (4, 0), (1, 1)]) (cmp3 i j k))) || decide (cmp3 i j k = [0, 1])) = true := by decide +kernel
theorem fo1 {i j k : Nat} (h1 : i ≤ j) (h2 : j ≤ k) (h3 : k < 3) (h : fB [(0, 0), (4, 0), (1, 1)] (smC [(0, 0), (4, 0), (1, 1)]) (cmp3 i j k) = true) : cmp3 i j k = [0, 1] := by
  have h0 := fo0
  rw [List.all_eq_true] at h0
  have h0 := h0 i (List.mem_range.2 (by omega))
  rw [List.all_eq_true] at h0
  have h0 := h0 j (List.mem_range.2 (by omega))
  rw [List.all_eq_true] at h0
  have h0 := h0 k (List.mem_range.2 (by omega))
  rw [h, decide_eq_true h1, decide_eq_true h2] at h0
  simpa using h0
theorem ck1 : chkP [(0, 0), (4, 0)] = true ∧ chkP [(0, 0), (4, 0), (2, 3)] = true ∧ chkP [(0, 0), (2, 0), (0, 2), (2, 2)] = true ∧ chkP [(0, 0), (4, 0), (1, 1)] = true ∧ errP [] = 40 := by decide +kernel
theorem slp_nil (w : World) : SlP w (.slice none 0 0) [] := ⟨none, 0, rfl, Nat.le_refl _, .inl rfl⟩
set_option maxRecDepth 100000 in
set_option maxHeartbeats 2000000 in
theorem awake_any (w : World) : Calls Try.prog 18 #[] w fun e w' => e = .returned (.bool true) ∧ Below w.heap.size w w' := by
  have S1 := Lib.hid (fun (W : World) => Smallest_ok [(0, 0), (4, 0)] _ _ (slp_two W 0 0 4 0) ck1.1)
  rw [sm1] at S1
  have S2 := Lib.hid (fun (W : World) (N : Nat) (hN : W.heap.size = N) => (hN ▸ Smallest_ok [(0, 0), (4, 0), (2, 3)] _ _ (slp_three W 0 0 4 0 2 3) ck1.2.1 : Calls Try.prog 19 #[.slice (some ⟨N, 0, none⟩) 3 3] (W.alloc (.cells #[.int .i64 0, .int .i64 0, .int .i64 4, .int .i64 0, .int .i64 2, .int .i64 3] 28)) fun e w' => e = .returned (.tuple #[(smC [(0, 0), (4, 0), (2, 3)]).V, .int .i64 0]) ∧ Below (W.alloc (.cells #[.int .i64 0, .int .i64 0, .int .i64 4, .int .i64 0, .int .i64 2, .int .i64 3] 28)).heap.size (W.alloc (.cells #[.int .i64 0, .int .i64 0, .int .i64 4, .int .i64 0, .int .i64 2, .int .i64 3] 28)) w'))
  rw [sm2] at S2
  have S3 := Lib.hid (fun (W : World) => Through_any 0 0 2 0 0 2 W)
  rw [tr1.1, tr1.2] at S3
  have S4 := Lib.hid (fun (W : World) (N : Nat) (hN : W.heap.size = N) => (hN ▸ Empty_ok [(0, 0), (2, 0), (0, 2), (2, 2)] _ _ (slp_four W 0 0 2 0 0 2 2 2) ck1.2.2.1 : Calls Try.prog 23 #[.slice (some ⟨N, 0, none⟩) 4 4] (W.alloc (.cells #[.int .i64 0, .int .i64 0, .int .i64 2, .int .i64 0, .int .i64 0, .int .i64 2, .int .i64 2, .int .i64 2] 28)) fun e w' => ∃ s, e = .returned (.tuple #[s, .int .i64 0]) ∧ w'.ownsRow (W.alloc (.cells #[.int .i64 0, .int .i64 0, .int .i64 2, .int .i64 0, .int .i64 0, .int .i64 2, .int .i64 2, .int .i64 2] 28)).heap.size 71 3 s (emptyL [(0, 0), (2, 0), (0, 2), (2, 2)]).length (flatT (emptyL [(0, 0), (2, 0), (0, 2), (2, 2)])) ∧ Below (W.alloc (.cells #[.int .i64 0, .int .i64 0, .int .i64 2, .int .i64 0, .int .i64 0, .int .i64 2, .int .i64 2, .int .i64 2] 28)).heap.size (W.alloc (.cells #[.int .i64 0, .int .i64 0, .int .i64 2, .int .i64 0, .int .i64 0, .int .i64 2, .int .i64 2, .int .i64 2] 28)) w'))
  rw [em1] at S4
  have S5 := Lib.hid (fun (W : World) => Force_ok [(0, 0), (4, 0), (1, 1)] _ _ (slp_three W 0 0 4 0 1 1) ck1.2.2.2.1)
  have S6 := Lib.hid (fun (W : World) => Check_any [] _ W (slp_nil W) (by simp))
  rw [ck1.2.2.2.2] at S6
  unfold Cir.V cirV at S1 S2 S3
  dsimp only at S1 S2 S3
  go_enter Try.func18, Try.ntmps18
  go_wp2_with fail
  refine (S1.out _).mono ?_
  rintro e w1 ⟨rfl, h1⟩
  have C1 := Lib.hid (Below.andThen (Below.al (Below.refl w.heap.size w) (Nat.le_refl _) (.cells #[.int .i64 0, .int .i64 0, .int .i64 4, .int .i64 0] 28)) h1 (Nat.le_refl _))
  clear h1 S1
  obtain ⟨b1, r1⟩ := box_start w1 30 [.int .i64 2, .int .i64 0, .int .i64 1, .int .i64 4]
  have B1 := Lib.hid (Below.andThen C1.out b1 (Nat.le_refl _))
  have R1 := Lib.hid r1
  clear b1 r1 C1
  go_wp2_with fail
  refine (S2.out _ _ (by simp)).mono ?_
  rintro e w2 ⟨rfl, h2⟩
  have h2' := Below.andThen (Below.al (Below.refl _ _) (Nat.le_refl _) _) h2 (Nat.le_refl _)
  obtain ⟨b2, r2⟩ := box_start w2 30 [.int .i64 12, .int .i64 5, .int .i64 6, .int .i64 169]
  have h2'' := Below.andThen h2' b2 (Nat.le_refl _)
  have B2 := Lib.hid (Below.andThen B1.out h2'' (Nat.le_refl _))
  have R12 := Lib.hid (R1.out.below h2'' R1.out.lt)
  have R2 := Lib.hid r2
  clear h2 h2' h2'' b2 r2 S2 B1 R1
  go_wp2_with fail
  refine (S3.out _).mono ?_
  rintro e w3 ⟨rfl, h3⟩
  obtain ⟨b3, r3⟩ := box_start w3 30 [.int .i64 1, .int .i64 1, .int .i64 1, .int .i64 2]
  have h3' := Below.andThen h3 b3 (Nat.le_refl _)
  have B3 := Lib.hid (Below.andThen B2.out h3' (Nat.le_refl _))
  have R13 := Lib.hid (R12.out.below h3' R12.out.lt)
  have R23 := Lib.hid (R2.out.below h3' R2.out.lt)
  have R3 := Lib.hid r3
  clear h3 h3' b3 r3 S3 B2 R12 R2
  go_wp2_with fail
  refine (S4.out _ _ (by simp)).mono ?_
  rintro e w4 ⟨s, rfl, ho, h4⟩
  have h4' := Below.andThen (Below.al (Below.refl _ _) (Nat.le_refl _) _) h4 (Nat.le_refl _)
  have B4 := Lib.hid (Below.andThen B3.out h4' (Nat.le_refl _))
  have R14 := Lib.hid (R13.out.below h4' R13.out.lt)
  have R24 := Lib.hid (R23.out.below h4' R23.out.lt)
  have R34 := Lib.hid (R3.out.below h4' R3.out.lt)
  obtain ⟨a4, c4, rfl⟩ : ∃ a c, s = .slice a 4 c := by
    rcases ho.2 with ⟨_, h⟩ | ⟨g, cap, cur, h, _⟩
    · cases h
    · exact ⟨_, _, h⟩
  clear h4 h4' ho S4 B3 R13 R23 R3
  go_wp2_with fail
  refine (S5.out _).mono ?_
  rintro e w5 ⟨i, j, k, s, rfl, ⟨hij, hjk, hk⟩, hfb, ho, h5⟩
  have hc := fo1 hij hjk hk hfb
  rw [hc] at ho
  have h5' := Below.andThen (Below.al (Below.refl _ _) (Nat.le_refl _) _) h5 (Nat.le_refl _)
  have B5 := Lib.hid (Below.andThen B4.out h5' (Nat.le_refl _))
  have r1 := R14.out.below h5' R14.out.lt
  have r2 := R24.out.below h5' R24.out.lt
  have r3 := R34.out.below h5' R34.out.lt
  have HS := Lib.hid (show SlI w5 s [0, 1] from sli_own (zs := [0, 1]) ho)
  clear hc ho h5 h5' hij hjk hk hfb S5 B4 R14 R24 R34
  have x0 := r1.cell 0
  have x1 := r1.cell 1
  have x2 := r1.cell 2
  have x3 := r1.cell 3
  have y0 := r2.cell 0
  have y1 := r2.cell 1
  have y2 := r2.cell 2
  have y3 := r2.cell 3
  have z0 := r3.cell 0
  have z1 := r3.cell 1
  have z2 := r3.cell 2
  have z3 := r3.cell 3
  simp only [List.getElem?_cons_zero, List.getElem?_cons_succ] at x0 x1 x2 x3 y0 y1 y2 y3 z0 z1 z2 z3
  clear r1 r2 r3
  go_wp2_with fail
  have hi := ints_sli [0, 1] [0, 1] s (.slice (some ⟨w5.heap.size, 0, none⟩) 2 2) (w5.alloc (.cells #[.int .i64 0, .int .i64 1] 3)) (HS.out.grow (Below.al (Below.refl _ _) (Nat.le_refl _) _)) (sli_new w5 [0, 1]) (by simp) (by simp)
  rw [decide_eq_true rfl] at hi
  refine hi.mono ?_
  rintro e w6 ⟨rfl, h6⟩
  have B6 := Lib.hid (Below.andThen B5.out (Below.andThen (Below.al (Below.refl _ _) (Nat.le_refl _) _) h6 (Nat.le_refl _)) (Nat.le_refl _))
  clear hi h6 B5 HS x0 x1 x2 x3 y0 y1 y2 y3 z0 z1 z2 z3
  go_wp2_with fail
  refine (S6.out _).mono ?_
  rintro e w7 ⟨rfl, h7⟩
  have B7 := Lib.hid (Below.andThen B6.out h7 (Nat.le_refl _))
  clear h7 S6 B6
  go_wp2_with fail
  go_ret
  exact ⟨rfl, B7.out⟩
end Go.Proofs.Ytlemipnplgbckaa
