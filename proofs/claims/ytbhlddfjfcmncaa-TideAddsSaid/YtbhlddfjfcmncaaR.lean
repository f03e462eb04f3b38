import Derived.Test.YtbhlddfjfcmncaaQ
import Derived.Test.YtbhlddfjfcmncaaIter
import Derived.Maps.OwnIn
import Derived.Maps.OwnSet
import Derived.Test.YtbhlddfjfcmncaaShelf
import Derived.RangeFuncNested
import Derived.RangeFuncBound
import Derived.RangeFuncCalls
import Derived.RangeFuncLeaves
import Derived.Shelf.Abstract
import Derived.Shelf.RegionOpen
import Derived.WalkKit
import Derived.OwnWalkIn
import Derived.TacticsInMore
import Derived.LoopNIn
import Derived.LoopIn
import Derived.WalkSpells
import Derived.WalkLawsBesides
import Derived.BigQuiet
import Derived.Deep.QuietTactic
import Derived.Lib.Hide
import Derived.Deep.RegionHeld3
import Derived.StillTailTactics
import Derived.Lib.MakeNoZero
import Derived.Laws.CopyOwn
import Derived.Deep.RegionLaw
import Derived.Deep.LoopGhost
import Derived.Lib.IndexAny
namespace Go.Proofs.Ytbhlddfjfcmncaa
open Go.RowKit Go.Shelf
attribute [local go_sem] Oper.semAt_some
/-- two cells of strings in a block -/
def Two (W : World) (b : Nat) (x y : ByteArray) : Prop := b < W.heap.size ∧ W.cell? ⟨b, 0, none⟩ = some (.string x) ∧ W.cell? ⟨b, 1, none⟩ = some (.string y)
theorem Two.new (W : World) (x y : ByteArray) (t : TypeId) : Two (W.alloc (.cells #[.string x, .string y] t)) W.heap.size x y :=
  ⟨by rw [size_al]; omega, by simp [cell_al], by simp [cell_al]⟩
theorem Two.below {W W' : World} {b : Nat} {x y : ByteArray} (h : Two W b x y) (hb : Below W.heap.size W W') : Two W' b x y :=
  ⟨Nat.lt_of_lt_of_le h.1 hb.size, below_at hb h.1 h.2.1, below_at hb h.1 h.2.2⟩
theorem Two.alloc {W : World} {b : Nat} {x y : ByteArray} (h : Two W b x y) (o : Obj) : Two (W.alloc o) b x y :=
  h.below ((Below.refl _ _).alloc (Nat.le_refl _) _)
theorem Below.al {B : Nat} {w W : World} (h : Below B w W) (hB : B ≤ w.heap.size) (o : Obj) : Below B w (W.alloc o) := h.alloc (Nat.le_trans hB h.size) _

set_option maxRecDepth 100000 in
set_option maxHeartbeats 1000000 in
theorem awake_any (w : World) : Calls Try.prog 21 #[] w fun e w' => e = .returned (.bool true) ∧ Below w.heap.size w w' := by
  have HG := Lib.hid aw_gaps
  go_enter Try.func21, Try.ntmps21
  go_wp2_with fail
  refine (aw_form _).mono ?_
  rintro e w1 ⟨rfl, hb1⟩
  have T1 := Lib.hid (Below.al hb1 (Nat.le_refl _) (Obj.cells #[Value.string sE, Value.string s10] 23))
  have C1 := Lib.hid (Two.new w1 sE s10 23)
  clear hb1
  go_wp2_with fail
  generalize w1.alloc (Obj.cells #[Value.string sE, Value.string s10] 23) = W1 at *
  generalize w1.heap.size = b1 at *
  refine (aw_wait _).mono ?_
  rintro e w2 ⟨rfl, hb2⟩
  have T2 := Lib.hid (Below.andThen T1.out hb2 (Nat.le_refl _))
  have C2 := Lib.hid (C1.out.below hb2)
  clear hb2 C1 T1
  go_wp2_with fail
  refine (aw_both _).mono ?_
  rintro e w3 ⟨rfl, hb3⟩
  have T3 := Lib.hid (Below.al (Below.andThen T2.out hb3 (Nat.le_refl _)) (Nat.le_refl _) (Obj.cells #[Value.string sE, Value.string s100000] 23))
  have C3 := Lib.hid ((C2.out.below hb3).alloc (Obj.cells #[Value.string sE, Value.string s100000] 23))
  have D3 := Lib.hid (Two.new w3 sE s100000 23)
  clear hb3 C2 T2
  go_wp2_with fail
  generalize w3.alloc (Obj.cells #[Value.string sE, Value.string s100000] 23) = W3 at *
  generalize w3.heap.size = b3 at *
  refine (aw_sum _).mono ?_
  rintro e w4 ⟨rfl, hb4⟩
  have T4 := Lib.hid (Below.al (Below.andThen T3.out hb4 (Nat.le_refl _)) (Nat.le_refl _) (Obj.cells #[Value.string sE, Value.string s010] 23))
  have C4 := Lib.hid ((C3.out.below hb4).alloc (Obj.cells #[Value.string sE, Value.string s010] 23))
  have D4 := Lib.hid ((D3.out.below hb4).alloc (Obj.cells #[Value.string sE, Value.string s010] 23))
  have E4 := Lib.hid (Two.new w4 sE s010 23)
  clear hb4 C3 T3 D3
  go_wp2_with fail
  generalize w4.alloc (Obj.cells #[Value.string sE, Value.string s010] 23) = W4 at *
  generalize w4.heap.size = b4 at *
  refine (aw_slope _).mono ?_
  rintro e w5 ⟨rfl, hb5⟩
  have T5 := Lib.hid (Below.al (Below.andThen T4.out hb5 (Nat.le_refl _)) (Nat.le_refl _) (Obj.cells #[Value.string sE, Value.string s00101] 23))
  have C5 := Lib.hid ((C4.out.below hb5).alloc (Obj.cells #[Value.string sE, Value.string s00101] 23))
  have D5 := Lib.hid ((D4.out.below hb5).alloc (Obj.cells #[Value.string sE, Value.string s00101] 23))
  have E5 := Lib.hid ((E4.out.below hb5).alloc (Obj.cells #[Value.string sE, Value.string s00101] 23))
  have F5 := Lib.hid (Two.new w5 sE s00101 23)
  have f0 := F5.out.2.1
  have f1 := F5.out.2.2
  clear hb5 C4 T4 D4 E4
  generalize hW5 : w5.alloc (Obj.cells #[Value.string sE, Value.string s00101] 23) = W5 at *
  generalize hb5 : w5.heap.size = b5 at *
  go_wp2_with fail
  rw [hb5, hW5] at *
  go_wp2_with fail
  refine (HG.out _).mono ?_
  rintro e w6 ⟨g, cap, rfl, hI, hg, hb6⟩
  have T6 := Lib.hid (Below.andThen T5.out hb6 (Nat.le_refl _))
  obtain ⟨_, c0, c1⟩ := C5.out.below hb6
  obtain ⟨_, d0, d1⟩ := D5.out.below hb6
  obtain ⟨_, e0, e1⟩ := E5.out.below hb6
  obtain ⟨_, g0, g1⟩ := F5.out.below hb6
  have HI := Lib.hid hI
  have HGG := Lib.hid hg
  clear hb6 hI hg f0 f1 C5 D5 E5 F5 T5 HG
  go_wp2_with fail
  have hI2 : IntsAt (w6.alloc (Obj.cells #[Value.int IntKind.i64 2, Value.int IntKind.i64 3] 3)) g 0 [2, 3] := by
    intro i hi
    have h := HI.out i hi
    have hlt : g < w6.heap.size := block_lt_of_cell h
    rw [cell_al, if_neg (by omega)]; exact h
  have hI3 : IntsAt (w6.alloc (Obj.cells #[Value.int IntKind.i64 2, Value.int IntKind.i64 3] 3)) w6.heap.size 0 [2, 3] := by
    intro i hi
    rw [cell_al, if_pos rfl]
    match i, hi with
    | 0, _ => rfl
    | 1, _ => rfl
  refine (ints_any g 0 cap w6.heap.size 0 2 [2, 3] [2, 3] _ 2 2 rfl rfl (by omega) (by omega) hI2 hI3).mono ?_
  rintro e w7 ⟨rfl, n, rfl⟩
  clear hI2 hI3 HI
  go_wp2_with fail
  refine (aw_check _).mono ?_
  rintro e w8 ⟨rfl, hb8⟩
  go_wp2_with fail
  exact bodyPost_ret (v := .bool true) (by simp [results, Try.results21, go_sem]) rfl ⟨rfl, Below.andThen (below_drewN (Below.al T6.out (Nat.le_refl _) _) _) hb8 (Nat.le_trans (Nat.le_refl _) (by simp))⟩
end Go.Proofs.Ytbhlddfjfcmncaa
