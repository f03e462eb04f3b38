import Derived.Test.YtlehddifcjklgaaN
import Derived.Maps.OwnIn
import Derived.Maps.OwnSet
import Derived.Maps.AppendAt
import Derived.RangeFuncNested
import Derived.RangeFuncBound
import Derived.RangeFuncCalls
import Derived.RangeFuncLeaves
import Derived.Shelf.Abstract
import Derived.Shelf.RegionOpen
import Derived.WalkKit
import Derived.OwnWalkIn
import Derived.TacticsInMore
import Derived.LoopNIn
import Derived.LoopIn
import Derived.Sort.QuietThIn
import Derived.Sort.QuietTacIn
import Derived.Sort.BigQuietIn
import Derived.WalkSpells
import Derived.WalkLawsBesides
import Derived.BigQuiet
import Derived.Deep.QuietTactic
import Derived.Lib.Hide
import Derived.Deep.RegionHeld3
import Derived.StillTailTactics
import Derived.Deep.LoopGhost
import Derived.Lib.IndexAny
namespace Go.Proofs.Ytlehddifcjklgaa
open Go.RowKit Go.Shelf
attribute [local go_sem] Oper.semAt_some
set_option maxRecDepth 100000 in
set_option maxHeartbeats 1000000 in
theorem bodyOf_none (ps : List Pt) (b c : Nat) (w : World) (hp : PtsAt w b 0 ps) (hck : chk ps = true) (hD0 : 0 < area ps) :
    Calls Try.prog 67 #[.slice (some ⟨b, 0, none⟩) ps.length c, .slice none 0 0] w fun e w' => e = .returned (.tuple #[.agg #[.slice (some ⟨b, 0, none⟩) ps.length c, .int .i64 (mid ps).1, .int .i64 (mid ps).2.1, .int .i64 (mid ps).2.2], .int .i64 0]) ∧ Below w.heap.size w w' := by
  have ha : areP ps = true := by unfold chk at hck; exact (Bool.and_eq_true _ _ ▸ hck : _ ∧ _).1
  have hlen := areP_len ha
  have HC : Hid (∀ W, PtsAt W b 0 ps → Calls Try.prog 20 #[.slice (some ⟨b, 0, none⟩) ps.length c] W fun e w' => e = .returned (.int .i64 0) ∧ Below W.heap.size W w') := Lib.hid (fun W h => by
    have := check_any ps b c W h (by omega)
    rw [hck] at this; exact this)
  have HM := Lib.hid (fun W (h : PtsAt W b 0 ps) => middleOf_any ps b c W h ha hD0)
  obtain ⟨X, Y, D, hm⟩ : ∃ X Y D, mid ps = (X, Y, D) := ⟨_, _, _, rfl⟩
  rw [hm] at HM ⊢
  dsimp only at HM ⊢
  have HP := Lib.hid hp
  clear hp hck hD0 ha hm
  go_enter Try.func67, Try.ntmps67
  go_wp2_with fail
  obtain ⟨W0, hW0⟩ : ∃ W0, W0 = w.alloc (.cells #[.slice none 0 0, .int .i64 0, .int .i64 0, .int .i64 0] 81) := ⟨_, rfl⟩
  have B0 := Lib.hid (show Below w.heap.size w W0 by rw [hW0]; exact (Below.refl _ _).alloc (Nat.le_refl _) _)
  have l0 : w.heap.size < W0.heap.size := by rw [hW0]; simp
  have r0 := Lib.hid (show Row W0 w.heap.size 81 [.slice none 0 0, .int .i64 0, .int .i64 0, .int .i64 0] by rw [hW0]; exact Row.new _ _ _)
  rw [← hW0]
  clear hW0
  refine (HC.out W0 (HP.out.grow B0.out)).mono ?_
  rintro e w1 ⟨rfl, hb1⟩
  have T1 := Lib.hid (Below.andThen B0.out hb1 (Nat.le_refl _))
  have r1 := Lib.hid (r0.out.below hb1 l0)
  have l1 : w.heap.size < w1.heap.size := Nat.lt_of_lt_of_le l0 hb1.size
  clear hb1 r0 B0 l0
  go_wp2_with fail
  go_loopw [17] (fun i wr => i = .int .i64 0 ∧ wr = w1) (fun _ _ => 0)
  case atStart => exact ⟨rfl, rfl⟩
  case round =>
    obtain ⟨rfl, rfl⟩ := hrel
    go_wp2_with fail
    refine (HM.out _ (HP.out.grow T1.out)).mono ?_
    rintro e w2 ⟨rfl, hb2⟩
    have T2 := Lib.hid (Below.andThen T1.out hb2 (Nat.le_refl _))
    have rr := r1.out.below hb2 l1
    have q0 := rr.cell 0
    have q1 := rr.cell 1
    have q2 := rr.cell 2
    have q3 := rr.cell 3
    have f0 := frozen_of_row _ w.heap.size 0 _ _ rr
    have f1 := frozen_of_row _ w.heap.size 1 _ _ rr
    have f2 := frozen_of_row _ w.heap.size 2 _ _ rr
    have f3 := frozen_of_row _ w.heap.size 3 _ _ rr
    simp only [List.getElem?_cons_zero, List.getElem?_cons_succ] at q0 q1 q2 q3
    have RR := Lib.hid rr
    clear hb2 rr
    go_wp2_with fail
    have hr : Row ((((w2.setCell ⟨w.heap.size, 0, none⟩ (.slice (some ⟨b, 0, none⟩) ps.length c)).setCell ⟨w.heap.size, 1, none⟩ (.int .i64 X)).setCell ⟨w.heap.size, 2, none⟩ (.int .i64 Y)).setCell ⟨w.heap.size, 3, none⟩ (.int .i64 D)) w.heap.size 81 [.slice (some ⟨b, 0, none⟩) ps.length c, .int .i64 X, .int .i64 Y, .int .i64 D] := by
      simpa using (((RR.out.set 0 (.slice (some ⟨b, 0, none⟩) ps.length c)).set 1 (.int .i64 X)).set 2 (.int .i64 Y)).set 3 (.int .i64 D)
    have v0 := hr.cell 0
    have v1 := hr.cell 1
    have v2 := hr.cell 2
    have v3 := hr.cell 3
    simp only [List.getElem?_cons_zero, List.getElem?_cons_succ] at v0 v1 v2 v3
    refine bodyPost_ret (v := .tuple #[.agg #[.slice (some ⟨b, 0, none⟩) ps.length c, .int .i64 X, .int .i64 Y, .int .i64 D], .int .i64 0]) (by simp [results, Try.results67, go_sem, v0, v1, v2, v3]) rfl ⟨rfl, ?_⟩
    exact (((T2.out.setCell (p := ⟨w.heap.size, 0, none⟩) (Nat.le_refl _) _).setCell (p := ⟨w.heap.size, 1, none⟩) (Nat.le_refl _) _).setCell (p := ⟨w.heap.size, 2, none⟩) (Nat.le_refl _) _).setCell (p := ⟨w.heap.size, 3, none⟩) (Nat.le_refl _) _
set_option maxRecDepth 100000 in
set_option maxHeartbeats 1000000 in
theorem bodyOf_one (ps : List Pt) (b c : Nat) (w : World) (g : Nat) (s : Nat) (hg : g < w.heap.size) (hgc : w.cell? ⟨g, 0, none⟩ = some (.int .i64 (s : Int))) (hs : s < ps.length) (hp : PtsAt w b 0 ps) (hck : chk ps = true) (hD0 : 0 < area ps) :
    Calls Try.prog 67 #[.slice (some ⟨b, 0, none⟩) ps.length c, .slice (some ⟨g, 0, none⟩) 1 1] w fun e w' => e = .returned (.tuple #[.agg #[.slice (some ⟨b, 0, none⟩) ps.length c, .int .i64 (mid ps).1, .int .i64 (mid ps).2.1, .int .i64 (mid ps).2.2], .int .i64 0]) ∧ Below w.heap.size w w' := by
  have ha : areP ps = true := by unfold chk at hck; exact (Bool.and_eq_true _ _ ▸ hck : _ ∧ _).1
  have hlen := areP_len ha
  have HC : Hid (∀ W, PtsAt W b 0 ps → Calls Try.prog 20 #[.slice (some ⟨b, 0, none⟩) ps.length c] W fun e w' => e = .returned (.int .i64 0) ∧ Below W.heap.size W w') := Lib.hid (fun W h => by
    have := check_any ps b c W h (by omega)
    rw [hck] at this; exact this)
  have HM := Lib.hid (fun W (h : PtsAt W b 0 ps) => middleOf_any ps b c W h ha hD0)
  obtain ⟨X, Y, D, hm⟩ : ∃ X Y D, mid ps = (X, Y, D) := ⟨_, _, _, rfl⟩
  rw [hm] at HM ⊢
  dsimp only at HM ⊢
  have HP := Lib.hid hp
  clear hp hck hD0 ha hm
  go_enter Try.func67, Try.ntmps67
  go_wp2_with fail
  obtain ⟨W0, hW0⟩ : ∃ W0, W0 = w.alloc (.cells #[.slice none 0 0, .int .i64 0, .int .i64 0, .int .i64 0] 81) := ⟨_, rfl⟩
  have B0 := Lib.hid (show Below w.heap.size w W0 by rw [hW0]; exact (Below.refl _ _).alloc (Nat.le_refl _) _)
  have l0 : w.heap.size < W0.heap.size := by rw [hW0]; simp
  have r0 := Lib.hid (show Row W0 w.heap.size 81 [.slice none 0 0, .int .i64 0, .int .i64 0, .int .i64 0] by rw [hW0]; exact Row.new _ _ _)
  rw [← hW0]
  clear hW0
  refine (HC.out W0 (HP.out.grow B0.out)).mono ?_
  rintro e w1 ⟨rfl, hb1⟩
  have T1 := Lib.hid (Below.andThen B0.out hb1 (Nat.le_refl _))
  have r1 := Lib.hid (r0.out.below hb1 l0)
  have l1 : w.heap.size < w1.heap.size := Nat.lt_of_lt_of_le l0 hb1.size
  clear hb1 r0 B0 l0
  have hgc1 := below_at T1.out hg hgc
  have t1 : decide ((s : Int) < 0) = false := by simp
  have t2 : decide ((ps.length : Int) ≤ (s : Int)) = false := by simp; omega
  clear hgc
  go_wp2_with fail
  go_loopw [17] (fun i wr => ∃ k : Nat, k ≤ 1 ∧ i = .int .i64 (k : Int) ∧ wr = w1) (fun i _ => 1 - (intOf i).toNat)
  case atStart => exact ⟨0, by omega, rfl, rfl⟩
  case round =>
    obtain ⟨k, hk, rfl, rfl⟩ := hrel
    by_cases hk0 : k = 0
    · subst hk0
      go_wp2_with fail
      go_roundw
      case rel => exact ⟨1, by omega, rfl, trivial⟩
      case measure => simp [intOf]
    obtain rfl : k = 1 := by omega
    clear hk0
    go_wp2_with fail
    refine (HM.out _ (HP.out.grow T1.out)).mono ?_
    rintro e w2 ⟨rfl, hb2⟩
    have T2 := Lib.hid (Below.andThen T1.out hb2 (Nat.le_refl _))
    have rr := r1.out.below hb2 l1
    have q0 := rr.cell 0
    have q1 := rr.cell 1
    have q2 := rr.cell 2
    have q3 := rr.cell 3
    have f0 := frozen_of_row _ w.heap.size 0 _ _ rr
    have f1 := frozen_of_row _ w.heap.size 1 _ _ rr
    have f2 := frozen_of_row _ w.heap.size 2 _ _ rr
    have f3 := frozen_of_row _ w.heap.size 3 _ _ rr
    simp only [List.getElem?_cons_zero, List.getElem?_cons_succ] at q0 q1 q2 q3
    have RR := Lib.hid rr
    clear hb2 rr
    go_wp2_with fail
    have hr : Row ((((w2.setCell ⟨w.heap.size, 0, none⟩ (.slice (some ⟨b, 0, none⟩) ps.length c)).setCell ⟨w.heap.size, 1, none⟩ (.int .i64 X)).setCell ⟨w.heap.size, 2, none⟩ (.int .i64 Y)).setCell ⟨w.heap.size, 3, none⟩ (.int .i64 D)) w.heap.size 81 [.slice (some ⟨b, 0, none⟩) ps.length c, .int .i64 X, .int .i64 Y, .int .i64 D] := by
      simpa using (((RR.out.set 0 (.slice (some ⟨b, 0, none⟩) ps.length c)).set 1 (.int .i64 X)).set 2 (.int .i64 Y)).set 3 (.int .i64 D)
    have v0 := hr.cell 0
    have v1 := hr.cell 1
    have v2 := hr.cell 2
    have v3 := hr.cell 3
    simp only [List.getElem?_cons_zero, List.getElem?_cons_succ] at v0 v1 v2 v3
    refine bodyPost_ret (v := .tuple #[.agg #[.slice (some ⟨b, 0, none⟩) ps.length c, .int .i64 X, .int .i64 Y, .int .i64 D], .int .i64 0]) (by simp [results, Try.results67, go_sem, v0, v1, v2, v3]) rfl ⟨rfl, ?_⟩
    exact (((T2.out.setCell (p := ⟨w.heap.size, 0, none⟩) (Nat.le_refl _) _).setCell (p := ⟨w.heap.size, 1, none⟩) (Nat.le_refl _) _).setCell (p := ⟨w.heap.size, 2, none⟩) (Nat.le_refl _) _).setCell (p := ⟨w.heap.size, 3, none⟩) (Nat.le_refl _) _
end Go.Proofs.Ytlehddifcjklgaa
