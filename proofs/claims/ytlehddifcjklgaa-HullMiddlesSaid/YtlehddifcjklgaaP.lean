import Derived.Test.YtlehddifcjklgaaO
import Derived.Maps.OwnIn
import Derived.Maps.OwnSet
import Derived.Maps.AppendAt
import Derived.RangeFuncNested
import Derived.RangeFuncBound
import Derived.RangeFuncCalls
import Derived.RangeFuncLeaves
import Derived.Shelf.Abstract
import Derived.Shelf.RegionOpen
import Derived.WalkKit
import Derived.OwnWalkIn
import Derived.TacticsInMore
import Derived.LoopNIn
import Derived.LoopIn
import Derived.Sort.QuietThIn
import Derived.Sort.QuietTacIn
import Derived.Sort.BigQuietIn
import Derived.WalkSpells
import Derived.WalkLawsBesides
import Derived.BigQuiet
import Derived.Deep.QuietTactic
import Derived.Lib.Hide
import Derived.Deep.RegionHeld3
import Derived.StillTailTactics
import Derived.Deep.LoopGhost
import Derived.Lib.IndexAny
namespace Go.Proofs.Ytlehddifcjklgaa
open Go.RowKit Go.Shelf
attribute [local go_sem] Oper.semAt_some
set_option maxHeartbeats 1000000 in
theorem Middle_any (ps : List Pt) (b c : Nat) (w : World) (hp : PtsAt w b 0 ps) (hck : chk ps = true) (hD0 : 0 < area ps) :
    Calls Try.prog 22 #[.slice (some ⟨b, 0, none⟩) ps.length c] w fun e w' => e = .returned (.tuple #[.agg #[.int .i64 (mid ps).1, .int .i64 (mid ps).2.1, .int .i64 (mid ps).2.2], .int .i64 0]) ∧ Below w.heap.size w w' := by
  have HM := Lib.hid (fun W (h : PtsAt W b 0 ps) => bodyOf_none ps b c W h hck hD0)
  obtain ⟨X, Y, D, hm⟩ : ∃ X Y D, mid ps = (X, Y, D) := ⟨_, _, _, rfl⟩
  rw [hm] at HM ⊢
  dsimp only at HM ⊢
  have HP := Lib.hid hp
  clear hp hck hD0 hm
  go_enter Try.func22, Try.ntmps22
  go_wp2_with fail
  obtain ⟨W0, hW0⟩ : ∃ W0, W0 = w.alloc (.cells #[.int .i64 0, .int .i64 0, .int .i64 0] 29) := ⟨_, rfl⟩
  have B0 := Lib.hid (show Below w.heap.size w W0 by rw [hW0]; exact (Below.refl _ _).alloc (Nat.le_refl _) _)
  have l0 : w.heap.size < W0.heap.size := by rw [hW0]; simp
  have r0 := Lib.hid (show Row W0 w.heap.size 29 [.int .i64 0, .int .i64 0, .int .i64 0] by rw [hW0]; exact Row.new _ _ _)
  rw [← hW0]
  clear hW0
  refine (HM.out W0 (HP.out.grow B0.out)).mono ?_
  rintro e w1 ⟨rfl, hb1⟩
  obtain ⟨V, hV⟩ : ∃ V, V = w1.alloc (.cells #[.slice (some ⟨b, 0, none⟩) ps.length c, .int .i64 X, .int .i64 Y, .int .i64 D] 81) := ⟨_, rfl⟩
  have BV := Lib.hid (show Below w.heap.size w V by rw [hV]; exact Below.al (Below.andThen B0.out hb1 (Nat.le_refl _)) (Nat.le_refl _) _)
  have rb : Row V w1.heap.size 81 [.slice (some ⟨b, 0, none⟩) ps.length c, .int .i64 X, .int .i64 Y, .int .i64 D] := by rw [hV]; exact Row.new _ _ _
  have rr : Row V w.heap.size 29 [.int .i64 0, .int .i64 0, .int .i64 0] := by
    rw [hV]; exact (r0.out.below hb1 l0).below ((Below.refl _ _).alloc (Nat.le_refl _) _) (Nat.lt_of_lt_of_le l0 hb1.size)
  have b1 := rb.cell 1
  have b2 := rb.cell 2
  have b3 := rb.cell 3
  have q0 := rr.cell 0
  have q1 := rr.cell 1
  have q2 := rr.cell 2
  have f0 := frozen_of_row _ w.heap.size 0 _ _ rr
  have f1 := frozen_of_row _ w.heap.size 1 _ _ rr
  have f2 := frozen_of_row _ w.heap.size 2 _ _ rr
  simp only [List.getElem?_cons_zero, List.getElem?_cons_succ] at q0 q1 q2 b1 b2 b3
  have RR := Lib.hid rr
  clear rr rb hb1
  rw [hV] at q0 q1 q2 f0 f1 f2 b1 b2 b3
  go_wp2_with fail
  rw [← hV]
  clear hV
  have hr : Row (((V.setCell ⟨w.heap.size, 0, none⟩ (.int .i64 X)).setCell ⟨w.heap.size, 1, none⟩ (.int .i64 Y)).setCell ⟨w.heap.size, 2, none⟩ (.int .i64 D)) w.heap.size 29 [.int .i64 X, .int .i64 Y, .int .i64 D] := by
    simpa using ((RR.out.set 0 (.int .i64 X)).set 1 (.int .i64 Y)).set 2 (.int .i64 D)
  have v0 := hr.cell 0
  have v1 := hr.cell 1
  have v2 := hr.cell 2
  simp only [List.getElem?_cons_zero, List.getElem?_cons_succ] at v0 v1 v2
  refine bodyPost_ret (v := .tuple #[.agg #[.int .i64 X, .int .i64 Y, .int .i64 D], .int .i64 0]) (by simp [results, Try.results22, go_sem, v0, v1, v2]) rfl ⟨rfl, ?_⟩
  exact ((BV.out.setCell (p := ⟨w.heap.size, 0, none⟩) (Nat.le_refl _) _).setCell (p := ⟨w.heap.size, 1, none⟩) (Nat.le_refl _) _).setCell (p := ⟨w.heap.size, 2, none⟩) (Nat.le_refl _) _

theorem ownsRow_lower {W : World} {n₀ m₀ e k s : Nat} {u : Value} {xs : List Value} (h : W.ownsRow n₀ e s u k xs) (hm : m₀ ≤ n₀) : W.ownsRow m₀ e s u k xs :=
  ⟨h.1, h.2.imp id (fun ⟨g, cap, cur, h1, h2, h3⟩ => ⟨g, cap, cur, h1, Nat.le_trans hm h2, h3⟩)⟩
end Go.Proofs.Ytlehddifcjklgaa
