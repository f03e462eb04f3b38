import Derived.Test.YtlehddifcjklgaaBr
import Derived.Maps.OwnIn
import Derived.Maps.OwnSet
import Derived.Maps.AppendAt
import Derived.RangeFuncNested
import Derived.RangeFuncBound
import Derived.RangeFuncCalls
import Derived.RangeFuncLeaves
import Derived.Shelf.Abstract
import Derived.Shelf.RegionOpen
import Derived.WalkKit
import Derived.OwnWalkIn
import Derived.TacticsInMore
import Derived.LoopNIn
import Derived.LoopIn
import Derived.WalkMore
import Derived.Sort.QuietThIn
import Derived.Sort.QuietTacIn
import Derived.Sort.BigQuietIn
import Derived.WalkSpells
import Derived.WalkLawsBesides
import Derived.BigQuiet
import Derived.Deep.QuietTactic
import Derived.Lib.Hide
import Derived.Deep.RegionHeld3
import Derived.StillTailTactics
import Derived.Deep.LoopGhost
import Derived.Lib.IndexAny
namespace Go.Proofs.Ytlehddifcjklgaa
open Go.RowKit Go.Shelf
attribute [local go_sem] Oper.semAt_some
set_option maxRecDepth 100000 in
set_option maxHeartbeats 1000000 in
theorem bodyOf_bad (x sv : Value) (w : World) (hC : ∀ W, Below w.heap.size w W → Calls Try.prog 20 #[x] W fun e w' => e = .returned (.int .i64 30) ∧ Below W.heap.size W w') :
    Calls Try.prog 67 #[x, sv] w fun e w' => e = .returned (.tuple #[.agg #[.slice none 0 0, .int .i64 0, .int .i64 0, .int .i64 0], .int .i64 30]) ∧ Below w.heap.size w w' := by
  have HC := Lib.hid hC
  clear hC
  go_enter Try.func67, Try.ntmps67
  go_wp2_with fail
  obtain ⟨W0, hW0⟩ : ∃ W0, W0 = w.alloc (.cells #[.slice none 0 0, .int .i64 0, .int .i64 0, .int .i64 0] 81) := ⟨_, rfl⟩
  have B0 := Lib.hid (show Below w.heap.size w W0 by rw [hW0]; exact (Below.refl _ _).alloc (Nat.le_refl _) _)
  have l0 : w.heap.size < W0.heap.size := by rw [hW0]; simp
  have r0 := Lib.hid (show Row W0 w.heap.size 81 [.slice none 0 0, .int .i64 0, .int .i64 0, .int .i64 0] by rw [hW0]; exact Row.new _ _ _)
  rw [← hW0]
  clear hW0
  refine (HC.out W0 B0.out).mono ?_
  rintro e w1 ⟨rfl, hb1⟩
  have T1 := Lib.hid (Below.andThen B0.out hb1 (Nat.le_refl _))
  have rr := r0.out.below hb1 l0
  have q0 := rr.cell 0
  have q1 := rr.cell 1
  have q2 := rr.cell 2
  have q3 := rr.cell 3
  have f0 := frozen_of_row _ w.heap.size 0 _ _ rr
  have f1 := frozen_of_row _ w.heap.size 1 _ _ rr
  have f2 := frozen_of_row _ w.heap.size 2 _ _ rr
  have f3 := frozen_of_row _ w.heap.size 3 _ _ rr
  simp only [List.getElem?_cons_zero, List.getElem?_cons_succ] at q0 q1 q2 q3
  have RR := Lib.hid rr
  clear hb1 rr
  go_wp2_with fail
  have hr : Row ((((w1.setCell ⟨w.heap.size, 0, none⟩ (.slice none 0 0)).setCell ⟨w.heap.size, 1, none⟩ (.int .i64 0)).setCell ⟨w.heap.size, 2, none⟩ (.int .i64 0)).setCell ⟨w.heap.size, 3, none⟩ (.int .i64 0)) w.heap.size 81 [.slice none 0 0, .int .i64 0, .int .i64 0, .int .i64 0] := by
    simpa using (((RR.out.set 0 (.slice none 0 0)).set 1 (.int .i64 0)).set 2 (.int .i64 0)).set 3 (.int .i64 0)
  have v0 := hr.cell 0
  have v1 := hr.cell 1
  have v2 := hr.cell 2
  have v3 := hr.cell 3
  simp only [List.getElem?_cons_zero, List.getElem?_cons_succ] at v0 v1 v2 v3
  refine bodyPost_ret (v := .tuple #[.agg #[.slice none 0 0, .int .i64 0, .int .i64 0, .int .i64 0], .int .i64 30]) (by simp [results, Try.results67, go_sem, v0, v1, v2, v3]) rfl ⟨rfl, ?_⟩
  exact (((T1.out.setCell (p := ⟨w.heap.size, 0, none⟩) (Nat.le_refl _) _).setCell (p := ⟨w.heap.size, 1, none⟩) (Nat.le_refl _) _).setCell (p := ⟨w.heap.size, 2, none⟩) (Nat.le_refl _) _).setCell (p := ⟨w.heap.size, 3, none⟩) (Nat.le_refl _) _
set_option maxRecDepth 100000 in
set_option maxHeartbeats 1000000 in
theorem Area_bad (x : Value) (w : World) (hC : ∀ W, Below w.heap.size w W → Calls Try.prog 20 #[x] W fun e w' => e = .returned (.int .i64 30) ∧ Below W.heap.size W w') :
    Calls Try.prog 21 #[x] w fun e w' => e = .returned (.tuple #[.int .i64 0, .int .i64 30]) ∧ Below w.heap.size w w' := by
  have HC := Lib.hid hC
  clear hC
  go_enter Try.func21, Try.ntmps21
  go_wp2_with fail
  refine (HC.out w (Below.refl _ _)).mono ?_
  rintro e w1 ⟨rfl, hb⟩
  go_wp2_with fail
  exact bodyPost_ret (v := .tuple #[.int .i64 0, .int .i64 30]) (by simp [results, Try.results21, go_sem]) rfl ⟨rfl, hb⟩
set_option maxRecDepth 100000 in
set_option maxHeartbeats 1000000 in
theorem Turned_bad (x : Value) (w : World) (hC : ∀ W, Below w.heap.size w W → Calls Try.prog 20 #[x] W fun e w' => e = .returned (.int .i64 30) ∧ Below W.heap.size W w') :
    Calls Try.prog 27 #[x] w fun e w' => e = .returned (.tuple #[.slice none 0 0, .int .i64 30]) ∧ Below w.heap.size w w' := by
  have HC := Lib.hid hC
  clear hC
  go_enter Try.func27, Try.ntmps27
  go_wp2_with fail
  refine (HC.out w (Below.refl _ _)).mono ?_
  rintro e w1 ⟨rfl, hb⟩
  go_wp2_with fail
  exact bodyPost_ret (v := .tuple #[.slice none 0 0, .int .i64 30]) (by simp [results, Try.results27, go_sem]) rfl ⟨rfl, hb⟩
set_option maxRecDepth 100000 in
set_option maxHeartbeats 1000000 in
theorem which_nil (fx : Nat) (w : World) :
    Calls Try.prog 68 #[.agg #[.slice none 0 0, .int .i64 0, .int .i64 0, .int .i64 0], .func (.func fx) #[.agg #[.slice none 0 0, .int .i64 0, .int .i64 0, .int .i64 0]] #[]] w
      fun e w' => e = .returned (.slice none 0 0) ∧ Below w.heap.size w w' := by
  go_enter Try.func68, Try.ntmps68
  go_wp2_with fail
  have B0 := Lib.hid (show Below w.heap.size w (w.alloc (.cells #[.slice none 0 0, .int .i64 0, .int .i64 0, .int .i64 0] 81)) from (Below.refl _ _).alloc (Nat.le_refl _) _)
  go_loopw [5, 10] (fun v i wr => v = .slice none 0 0 ∧ i = .int .i64 0 ∧ Hid (Below w.heap.size w wr)) (fun _ i _ => 0)
  case atStart => exact ⟨rfl, rfl, B0⟩
  case round =>
    obtain ⟨rfl, rfl, HB⟩ := hrel
    go_wp2_with fail
    go_ret
    exact ⟨rfl, HB.out⟩
set_option maxRecDepth 100000 in
set_option maxHeartbeats 1000000 in
theorem Rests_bad (x : Value) (w : World) (hM : ∀ W, Below w.heap.size w W → Calls Try.prog 67 #[x, .slice none 0 0] W fun e w' => e = .returned (.tuple #[.agg #[.slice none 0 0, .int .i64 0, .int .i64 0, .int .i64 0], .int .i64 30]) ∧ Below W.heap.size W w') :
    Calls Try.prog 23 #[x] w fun e w' => e = .returned (.tuple #[.slice none 0 0, .int .i64 30]) ∧ Below w.heap.size w w' := by
  have HM := Lib.hid hM
  clear hM
  go_enter Try.func23, Try.ntmps23
  go_wp2_with fail
  refine (HM.out w (Below.refl _ _)).mono ?_
  rintro e w1 ⟨rfl, hb⟩
  have T1 := Lib.hid (Below.al hb (Nat.le_refl _) (.cells #[.slice none 0 0, .int .i64 0, .int .i64 0, .int .i64 0] 81))
  clear hb
  go_wp2_with fail
  refine (which_nil 69 _).mono ?_
  rintro e w2 ⟨rfl, hb⟩
  have T2 := Lib.hid (Below.andThen T1.out hb (Nat.le_refl _))
  clear hb
  go_wp2_with fail
  exact bodyPost_ret (v := .tuple #[.slice none 0 0, .int .i64 30]) (by simp [results, Try.results23, go_sem]) rfl ⟨rfl, T2.out⟩
set_option maxRecDepth 100000 in
set_option maxHeartbeats 1000000 in
theorem Firm_bad (x : Value) (w : World) (hM : ∀ W, Below w.heap.size w W → Calls Try.prog 67 #[x, .slice none 0 0] W fun e w' => e = .returned (.tuple #[.agg #[.slice none 0 0, .int .i64 0, .int .i64 0, .int .i64 0], .int .i64 30]) ∧ Below W.heap.size W w') :
    Calls Try.prog 24 #[x] w fun e w' => e = .returned (.tuple #[.slice none 0 0, .int .i64 30]) ∧ Below w.heap.size w w' := by
  have HM := Lib.hid hM
  clear hM
  go_enter Try.func24, Try.ntmps24
  go_wp2_with fail
  refine (HM.out w (Below.refl _ _)).mono ?_
  rintro e w1 ⟨rfl, hb⟩
  have T1 := Lib.hid (Below.al hb (Nat.le_refl _) (.cells #[.slice none 0 0, .int .i64 0, .int .i64 0, .int .i64 0] 81))
  clear hb
  go_wp2_with fail
  refine (which_nil 70 _).mono ?_
  rintro e w2 ⟨rfl, hb⟩
  have T2 := Lib.hid (Below.andThen T1.out hb (Nat.le_refl _))
  clear hb
  go_wp2_with fail
  exact bodyPost_ret (v := .tuple #[.slice none 0 0, .int .i64 30]) (by simp [results, Try.results24, go_sem]) rfl ⟨rfl, T2.out⟩
set_option maxRecDepth 100000 in
set_option maxHeartbeats 1000000 in
theorem Tips_bad (x : Value) (w : World) (hM : ∀ W, Below w.heap.size w W → Calls Try.prog 67 #[x, .slice none 0 0] W fun e w' => e = .returned (.tuple #[.agg #[.slice none 0 0, .int .i64 0, .int .i64 0, .int .i64 0], .int .i64 30]) ∧ Below W.heap.size W w') :
    Calls Try.prog 25 #[x] w fun e w' => e = .returned (.tuple #[.slice none 0 0, .int .i64 30]) ∧ Below w.heap.size w w' := by
  have HM := Lib.hid hM
  clear hM
  go_enter Try.func25, Try.ntmps25
  go_wp2_with fail
  refine (HM.out w (Below.refl _ _)).mono ?_
  rintro e w1 ⟨rfl, hb⟩
  have T1 := Lib.hid (Below.al hb (Nat.le_refl _) (.cells #[.slice none 0 0, .int .i64 0, .int .i64 0, .int .i64 0] 81))
  clear hb
  go_wp2_with fail
  exact bodyPost_ret (v := .tuple #[.slice none 0 0, .int .i64 30]) (by simp [results, Try.results25, go_sem]) rfl ⟨rfl, T1.out⟩
set_option maxRecDepth 100000 in
set_option maxHeartbeats 1000000 in
theorem Lowest_bad (x : Value) (w : World) (hM : ∀ W, Below w.heap.size w W → Calls Try.prog 67 #[x, .slice none 0 0] W fun e w' => e = .returned (.tuple #[.agg #[.slice none 0 0, .int .i64 0, .int .i64 0, .int .i64 0], .int .i64 30]) ∧ Below W.heap.size W w') :
    Calls Try.prog 26 #[x] w fun e w' => e = .returned (.tuple #[.int .i64 0, .int .i64 30]) ∧ Below w.heap.size w w' := by
  have HM := Lib.hid hM
  clear hM
  go_enter Try.func26, Try.ntmps26
  go_wp2_with fail
  refine (HM.out w (Below.refl _ _)).mono ?_
  rintro e w1 ⟨rfl, hb⟩
  have T1 := Lib.hid (Below.al hb (Nat.le_refl _) (.cells #[.slice none 0 0, .int .i64 0, .int .i64 0, .int .i64 0] 81))
  clear hb
  go_wp2_with fail
  go_loopw [6, 16] (fun v i wr => v = .int .i64 0 ∧ i = .int .i64 0 ∧ Hid (Below w.heap.size w wr)) (fun _ i _ => 0)
  case atStart => exact ⟨rfl, rfl, T1⟩
  case round =>
    obtain ⟨rfl, rfl, HB⟩ := hrel
    go_wp2_with fail
    exact bodyPost_ret (v := .tuple #[.int .i64 0, .int .i64 30]) (by simp [results, Try.results26, go_sem]) rfl ⟨rfl, HB.out⟩
set_option maxRecDepth 100000 in
set_option maxHeartbeats 1000000 in
theorem Middle_bad (x : Value) (w : World) (hM : ∀ W, Below w.heap.size w W → Calls Try.prog 67 #[x, .slice none 0 0] W fun e w' => e = .returned (.tuple #[.agg #[.slice none 0 0, .int .i64 0, .int .i64 0, .int .i64 0], .int .i64 30]) ∧ Below W.heap.size W w') :
    Calls Try.prog 22 #[x] w fun e w' => e = .returned (.tuple #[.agg #[.int .i64 0, .int .i64 0, .int .i64 0], .int .i64 30]) ∧ Below w.heap.size w w' := by
  have HM := Lib.hid hM
  clear hM
  go_enter Try.func22, Try.ntmps22
  go_wp2_with fail
  obtain ⟨W0, hW0⟩ : ∃ W0, W0 = w.alloc (.cells #[.int .i64 0, .int .i64 0, .int .i64 0] 29) := ⟨_, rfl⟩
  have B0 := Lib.hid (show Below w.heap.size w W0 by rw [hW0]; exact (Below.refl _ _).alloc (Nat.le_refl _) _)
  have l0 : w.heap.size < W0.heap.size := by rw [hW0]; simp
  have r0 := Lib.hid (show Row W0 w.heap.size 29 [.int .i64 0, .int .i64 0, .int .i64 0] by rw [hW0]; exact Row.new _ _ _)
  rw [← hW0]
  clear hW0
  refine (HM.out W0 B0.out).mono ?_
  rintro e w1 ⟨rfl, hb1⟩
  obtain ⟨V, hV⟩ : ∃ V, V = w1.alloc (.cells #[.slice none 0 0, .int .i64 0, .int .i64 0, .int .i64 0] 81) := ⟨_, rfl⟩
  have BV := Lib.hid (show Below w.heap.size w V by rw [hV]; exact Below.al (Below.andThen B0.out hb1 (Nat.le_refl _)) (Nat.le_refl _) _)
  have rb : Row V w1.heap.size 81 [.slice none 0 0, .int .i64 0, .int .i64 0, .int .i64 0] := by rw [hV]; exact Row.new _ _ _
  have rr : Row V w.heap.size 29 [.int .i64 0, .int .i64 0, .int .i64 0] := by
    rw [hV]; exact (r0.out.below hb1 l0).below ((Below.refl _ _).alloc (Nat.le_refl _) _) (Nat.lt_of_lt_of_le l0 hb1.size)
  have b1 := rb.cell 1
  have b2 := rb.cell 2
  have b3 := rb.cell 3
  have q0 := rr.cell 0
  have q1 := rr.cell 1
  have q2 := rr.cell 2
  have f0 := frozen_of_row _ w.heap.size 0 _ _ rr
  have f1 := frozen_of_row _ w.heap.size 1 _ _ rr
  have f2 := frozen_of_row _ w.heap.size 2 _ _ rr
  simp only [List.getElem?_cons_zero, List.getElem?_cons_succ] at q0 q1 q2 b1 b2 b3
  have RR := Lib.hid rr
  clear rr rb hb1
  rw [hV] at q0 q1 q2 f0 f1 f2 b1 b2 b3
  go_wp2_with fail
  rw [← hV]
  clear hV
  have hr : Row (((V.setCell ⟨w.heap.size, 0, none⟩ (.int .i64 0)).setCell ⟨w.heap.size, 1, none⟩ (.int .i64 0)).setCell ⟨w.heap.size, 2, none⟩ (.int .i64 0)) w.heap.size 29 [.int .i64 0, .int .i64 0, .int .i64 0] := by
    simpa using ((RR.out.set 0 (.int .i64 0)).set 1 (.int .i64 0)).set 2 (.int .i64 0)
  have v0 := hr.cell 0
  have v1 := hr.cell 1
  have v2 := hr.cell 2
  simp only [List.getElem?_cons_zero, List.getElem?_cons_succ] at v0 v1 v2
  refine bodyPost_ret (v := .tuple #[.agg #[.int .i64 0, .int .i64 0, .int .i64 0], .int .i64 30]) (by simp [results, Try.results22, go_sem, v0, v1, v2]) rfl ⟨rfl, ?_⟩
  exact ((BV.out.setCell (p := ⟨w.heap.size, 0, none⟩) (Nat.le_refl _) _).setCell (p := ⟨w.heap.size, 1, none⟩) (Nat.le_refl _) _).setCell (p := ⟨w.heap.size, 2, none⟩) (Nat.le_refl _) _
set_option maxRecDepth 100000 in
set_option maxHeartbeats 1000000 in
theorem bodyOf_arg (ps : List Pt) (b c : Nat) (w : World) (g : Nat) (s : Int) (hg : g < w.heap.size) (hgc : w.cell? ⟨g, 0, none⟩ = some (.int .i64 s)) (hs : s < 0 ∨ (ps.length : Int) ≤ s) (hp : PtsAt w b 0 ps) (hck : chk ps = true) :
    Calls Try.prog 67 #[.slice (some ⟨b, 0, none⟩) ps.length c, .slice (some ⟨g, 0, none⟩) 1 1] w fun e w' => e = .returned (.tuple #[.agg #[.slice none 0 0, .int .i64 0, .int .i64 0, .int .i64 0], .int .i64 1]) ∧ Below w.heap.size w w' := by
  have ha : areP ps = true := by unfold chk at hck; exact (Bool.and_eq_true _ _ ▸ hck : _ ∧ _).1
  have hlen := areP_len ha
  have HC : Hid (∀ W, PtsAt W b 0 ps → Calls Try.prog 20 #[.slice (some ⟨b, 0, none⟩) ps.length c] W fun e w' => e = .returned (.int .i64 0) ∧ Below W.heap.size W w') := Lib.hid (fun W h => by
    have := check_any ps b c W h (by omega)
    rw [hck] at this; exact this)
  have HP := Lib.hid hp
  have hdd : decide (s < 0) = true ∨ (decide (s < 0) = false ∧ decide ((ps.length : Int) ≤ s) = true) := by
    by_cases h : s < 0
    · exact .inl (decide_eq_true h)
    · exact .inr ⟨decide_eq_false h, decide_eq_true (by omega)⟩
  clear hp hck ha hs
  go_enter Try.func67, Try.ntmps67
  go_wp2_with fail
  obtain ⟨W0, hW0⟩ : ∃ W0, W0 = w.alloc (.cells #[.slice none 0 0, .int .i64 0, .int .i64 0, .int .i64 0] 81) := ⟨_, rfl⟩
  have B0 := Lib.hid (show Below w.heap.size w W0 by rw [hW0]; exact (Below.refl _ _).alloc (Nat.le_refl _) _)
  have l0 : w.heap.size < W0.heap.size := by rw [hW0]; simp
  have r0 := Lib.hid (show Row W0 w.heap.size 81 [.slice none 0 0, .int .i64 0, .int .i64 0, .int .i64 0] by rw [hW0]; exact Row.new _ _ _)
  rw [← hW0]
  clear hW0
  refine (HC.out W0 (HP.out.grow B0.out)).mono ?_
  rintro e w1 ⟨rfl, hb1⟩
  have T1 := Lib.hid (Below.andThen B0.out hb1 (Nat.le_refl _))
  have rr := r0.out.below hb1 l0
  have q0 := rr.cell 0
  have q1 := rr.cell 1
  have q2 := rr.cell 2
  have q3 := rr.cell 3
  have f0 := frozen_of_row _ w.heap.size 0 _ _ rr
  have f1 := frozen_of_row _ w.heap.size 1 _ _ rr
  have f2 := frozen_of_row _ w.heap.size 2 _ _ rr
  have f3 := frozen_of_row _ w.heap.size 3 _ _ rr
  simp only [List.getElem?_cons_zero, List.getElem?_cons_succ] at q0 q1 q2 q3
  have RR := Lib.hid rr
  have hgc1 := below_at T1.out hg hgc
  clear hb1 rr hgc r0 B0
  go_wp2_with fail
  go_loopw [17] (fun i wr => i = .int .i64 0 ∧ wr = w1) (fun i _ => 0)
  case atStart => exact ⟨rfl, rfl⟩
  case round =>
    obtain ⟨rfl, rfl⟩ := hrel
    have hr : Row ((((wr.setCell ⟨w.heap.size, 0, none⟩ (.slice none 0 0)).setCell ⟨w.heap.size, 1, none⟩ (.int .i64 0)).setCell ⟨w.heap.size, 2, none⟩ (.int .i64 0)).setCell ⟨w.heap.size, 3, none⟩ (.int .i64 0)) w.heap.size 81 [.slice none 0 0, .int .i64 0, .int .i64 0, .int .i64 0] := by
      simpa using (((RR.out.set 0 (.slice none 0 0)).set 1 (.int .i64 0)).set 2 (.int .i64 0)).set 3 (.int .i64 0)
    have HR := Lib.hid hr
    clear hr
    rcases hdd with dd | ⟨dd, de⟩
    all_goals
      go_wp2_with fail
      have v0 := HR.out.cell 0
      have v1 := HR.out.cell 1
      have v2 := HR.out.cell 2
      have v3 := HR.out.cell 3
      simp only [List.getElem?_cons_zero, List.getElem?_cons_succ] at v0 v1 v2 v3
      refine bodyPost_ret (v := .tuple #[.agg #[.slice none 0 0, .int .i64 0, .int .i64 0, .int .i64 0], .int .i64 1]) (by simp [results, Try.results67, go_sem, v0, v1, v2, v3]) rfl ⟨rfl, ?_⟩
      exact (((T1.out.setCell (p := ⟨w.heap.size, 0, none⟩) (Nat.le_refl _) _).setCell (p := ⟨w.heap.size, 1, none⟩) (Nat.le_refl _) _).setCell (p := ⟨w.heap.size, 2, none⟩) (Nat.le_refl _) _).setCell (p := ⟨w.heap.size, 3, none⟩) (Nat.le_refl _) _
set_option maxRecDepth 100000 in
set_option maxHeartbeats 1000000 in
theorem Roll_bad (x : Value) (sd E : Int) (hE : E = 30 ∨ E = 1) (w : World) (hM : ∀ W g, Below w.heap.size w W → g < W.heap.size → W.cell? ⟨g, 0, none⟩ = some (.int .i64 sd) → Calls Try.prog 67 #[x, .slice (some ⟨g, 0, none⟩) 1 1] W fun e w' => e = .returned (.tuple #[.agg #[.slice none 0 0, .int .i64 0, .int .i64 0, .int .i64 0], .int .i64 E]) ∧ Below W.heap.size W w') :
    Calls Try.prog 29 #[x, .int .i64 sd] w fun e w' => e = .returned (.tuple #[.slice none 0 0, .int .i64 E]) ∧ Below w.heap.size w w' := by
  have HM := Lib.hid hM
  have d1 : (E != 0) = true := by rcases hE with rfl | rfl <;> rfl
  clear hM hE
  go_enter Try.func29, Try.ntmps29
  go_wp2_with fail
  go_step3
  go_wp2_with fail
  have B0 := Lib.hid (show Below w.heap.size w (w.alloc (.cells #[.int .i64 sd] 3)) from (Below.refl _ _).alloc (Nat.le_refl _) _)
  refine (HM.out _ w.heap.size B0.out (by simp) (by simp [cell_al])).mono ?_
  rintro e w1 ⟨rfl, hb⟩
  have T1 := Lib.hid (Below.andThen B0.out hb (Nat.le_refl _))
  clear hb
  go_wp2_with fail
  rw [Exit.noGoto_ret]
  exact bodyPost_ret (v := .tuple #[.slice none 0 0, .int .i64 E]) (by simp [results, Try.results29, go_sem]) rfl ⟨rfl, Below.al T1.out (Nat.le_refl _) _⟩
set_option maxRecDepth 100000 in
set_option maxHeartbeats 1000000 in
theorem Lean_bad (x : Value) (sd E : Int) (hE : E = 30 ∨ E = 1) (w : World) (hM : ∀ W g, Below w.heap.size w W → g < W.heap.size → W.cell? ⟨g, 0, none⟩ = some (.int .i64 sd) → Calls Try.prog 67 #[x, .slice (some ⟨g, 0, none⟩) 1 1] W fun e w' => e = .returned (.tuple #[.agg #[.slice none 0 0, .int .i64 0, .int .i64 0, .int .i64 0], .int .i64 E]) ∧ Below W.heap.size W w') :
    Calls Try.prog 30 #[x, .int .i64 sd] w fun e w' => e = .returned (.tuple #[.agg #[.int .i64 0, .int .i64 0], .int .i64 E]) ∧ Below w.heap.size w w' := by
  have HM := Lib.hid hM
  have d1 : (E != 0) = true := by rcases hE with rfl | rfl <;> rfl
  clear hM hE
  go_enter Try.func30, Try.ntmps30
  go_wp2_with fail
  obtain ⟨W0, hW0⟩ : ∃ W0, W0 = w.alloc (.cells #[.int .i64 0, .int .i64 0] 39) := ⟨_, rfl⟩
  have B0 := Lib.hid (show Below w.heap.size w W0 by rw [hW0]; exact (Below.refl _ _).alloc (Nat.le_refl _) _)
  have r0 := Lib.hid (show Row W0 w.heap.size 39 [.int .i64 0, .int .i64 0] by rw [hW0]; exact Row.new _ _ _)
  have s0 : W0.heap.size = w.heap.size + 1 := by rw [hW0]; simp
  rw [← hW0]
  clear hW0
  have B1 := Lib.hid (Below.al B0.out (Nat.le_refl _) (.cells #[.int .i64 sd] 3))
  refine (HM.out (W0.alloc (.cells #[.int .i64 sd] 3)) (w.heap.size + 1) B1.out (by simp [s0]) (by simp [cell_al, s0])).mono ?_
  rintro e w1 ⟨rfl, hb⟩
  have T1 := Lib.hid (Below.al (Below.andThen B1.out hb (Nat.le_refl _)) (Nat.le_refl _) (.cells #[.slice none 0 0, .int .i64 0, .int .i64 0, .int .i64 0] 81))
  have r1 := r0.out.below (B := W0.heap.size) (Below.al (Below.andThen ((Below.refl W0.heap.size W0).alloc (Nat.le_refl _) (.cells #[.int .i64 sd] 3)) hb (by simp)) (Nat.le_refl _) (.cells #[.slice none 0 0, .int .i64 0, .int .i64 0, .int .i64 0] 81)) r0.out.lt
  obtain ⟨z0, z1, z2, z3⟩ := two_cells r1
  clear hb r1
  go_wp2_with fail
  obtain ⟨q0, q1⟩ := two_set (x := .int .i64 0) (y := .int .i64 0) z0 z1
  refine bodyPost_ret (v := .tuple #[.agg #[.int .i64 0, .int .i64 0], .int .i64 E]) (by simp [results, Try.results30, go_sem, q0, q1]) rfl ⟨rfl, ?_⟩
  exact (T1.out.setCell (p := ⟨w.heap.size, 0, none⟩) (by simp) _).setCell (p := ⟨w.heap.size, 1, none⟩) (by simp) _
end Go.Proofs.Ytlehddifcjklgaa
