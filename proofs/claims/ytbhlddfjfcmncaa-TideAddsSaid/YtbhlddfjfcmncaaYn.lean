import Derived.Test.YtbhlddfjfcmncaaYm
import Derived.Test.YtbhlddfjfcmncaaYe
import Derived.Maps.OwnIn
import Derived.Maps.OwnSet
import Derived.RangeFuncNested
import Derived.RangeFuncBound
import Derived.RangeFuncCalls
import Derived.RangeFuncLeaves
import Derived.Shelf.Abstract
import Derived.Shelf.RegionOpen
import Derived.WalkKit
import Derived.OwnWalkIn
import Derived.TacticsInMore
import Derived.LoopNIn
import Derived.LoopIn
import Derived.WalkSpells
import Derived.WalkLawsBesides
import Derived.BigQuiet
import Derived.Deep.QuietTactic
import Derived.Lib.Hide
import Derived.Deep.RegionHeld3
import Derived.StillTailTactics
import Derived.Lib.MakeNoZero
import Derived.Laws.CopyOwn
import Derived.Deep.RegionLaw
import Derived.Deep.LoopGhost
import Derived.Deep.CutBlock
import Derived.Deep.DeepCutAuto
import Derived.Lib.IndexAny
namespace Go.Proofs.Ytbhlddfjfcmncaa
open Go.RowKit Go.Shelf
attribute [local go_sem] Oper.semAt_some
theorem combR_row {f r g s : ByteArray} {q : Bool → Bool → Bool} {K D : Nat} (ht : tideB (f, r) = true) (hu : tideB (g, s) = true) (hF : IsForm (fun h => q (hasB f r h) (hasB g s h)) K D) :
    combR f r g s q = if K ≤ 60 ∧ D ≤ 60 then .tuple #[.agg #[.string (toS (rowF (fun h => q (hasB f r h) (hasB g s h)) K)), .string (toS (rowR (fun h => q (hasB f r h) (hasB g s h)) K D))], .int .i64 0] else .tuple #[.agg #[.string ByteArray.empty, .string ByteArray.empty], .int .i64 8] := by
  obtain ⟨K', D', hF', _, _, e1, e2⟩ := join_form ht hu q
  obtain ⟨rfl, rfl⟩ := hF.unique hF'
  unfold combR; rw [ht, hu]
  show combV f r g s q = _
  unfold combV fitV
  rw [e1, e2, rowF_length, rowR_length]
theorem same_self (f r : ByteArray) (w : World) :
    Calls Try.prog 42 #[.agg #[.string f, .string r], .agg #[.string f, .string r]] w fun e w' => e = .returned (.bool true) ∧ Below w.heap.size w w' := by
  have h := same_any f r f r w
  have e : ((f.toList == f.toList) && (r.toList == r.toList)) = true := by simp
  rw [e] at h; exact h
set_option maxRecDepth 100000 in
set_option maxHeartbeats 2000000 in
theorem TideForms_any (f r : ByteArray) (w : World) (hf : f.size ≤ 9223372036854775807) (hr : r.size ≤ 9223372036854775807) :
    Calls Try.prog 5 #[.agg #[.string f, .string r]] w fun e w' => e = .returned (.bool true) ∧ Below w.heap.size w w' := by
  have HT : Hid (∀ W, Calls Try.prog 37 #[.agg #[.string f, .string r], .int .i64 60] W fun e w' => e = .returned (.agg #[.string (bitsV f 60), .string (tameR r 60)]) ∧ Below W.heap.size W w') := Lib.hid (fun W => tame_any f r 60 W hf hr (by omega))
  obtain ⟨ht, y1, y2⟩ := tame_facts f r 60 (by omega) (by omega)
  obtain ⟨_, _, y3⟩ := tideB_size ht
  generalize bitsV f 60 = F at *
  generalize tameR r 60 = R at *
  have m1 : F.size ≤ 9223372036854775807 := by omega
  have m2 : R.size ≤ 9223372036854775807 := by omega
  obtain ⟨K, D, hF, h1, h2, e1, e2⟩ := (told_form ht).1.ex
  have X1 : Hid (∀ W, Calls Try.prog 23 #[.agg #[.string F, .string R]] W fun e w' => e = .returned (.tuple #[.agg #[.string (toS (rowF (hasB F R) K)), .string (toS (rowR (hasB F R) K D))], .int .i64 0]) ∧ Below W.heap.size W w') := Lib.hid (fun W => by
    have h := Form_any F R W m1 m2
    rw [ht, if_pos rfl, e1, e2] at h; exact h)
  have X2 : Hid (∀ W, Calls Try.prog 27 #[.agg #[.string F, .string R]] W fun e w' => e = .returned (.tuple #[.agg #[.string (toS (rowF (fun i => !hasB F R i) K)), .string (toS (rowR (fun i => !hasB F R i) K D))], .int .i64 0]) ∧ Below W.heap.size W w') := Lib.hid (fun W => by
    have h := Not_any F R W m1 m2
    rw [combR_row (q := fun a _ => !a) ht ht (isForm_not hF), if_pos ⟨h1, h2⟩] at h; exact h)
  have X3 : Hid (∀ W, Calls Try.prog 43 #[.agg #[.string F, .string R]] W fun e w' => e = .returned (.agg #[.string (toS (rowF (hasB F R) K)), .string (toS (rowR (hasB F R) K D))]) ∧ Below W.heap.size W w') := Lib.hid (fun W => refForm_any F R W ht K D hF)
  have X4 : Hid (∀ W, Calls Try.prog 44 #[.agg #[.string F, .string R]] W fun e w' => e = .returned (.agg #[.string (toS (rowF (fun i => !hasB F R i) K)), .string (toS (rowR (fun i => !hasB F R i) K D))]) ∧ Below W.heap.size W w') := Lib.hid (fun W => refNot_any F R W ht K D hF)
  generalize toS (rowF (hasB F R) K) = FF at *
  generalize toS (rowR (hasB F R) K D) = FR at *
  generalize toS (rowF (fun i => !hasB F R i) K) = NF at *
  generalize toS (rowR (fun i => !hasB F R i) K D) = NR at *
  clear hF h1 h2 e1 e2 ht
  go_enter Try.func5, Try.ntmps5
  go_wp2_with fail
  refine (HT.out _).mono ?_
  rintro e v1 ⟨rfl, hb⟩
  have T := Lib.hid (Below.al (Below.trans (Below.al (Below.refl w.heap.size w) (Nat.le_refl _) (Obj.cells #[.string f, .string r] 23)) (hb.mono (by rw [size_al]; omega))) (Nat.le_refl _) (Obj.cells #[.string F, .string R] 24))
  have C := Lib.hid (Two.new v1 F R 24)
  clear hb
  go_wp2_with fail
  generalize v1.alloc (Obj.cells #[.string F, .string R] 24) = V1 at *
  generalize v1.heap.size = b1 at *
  refine (given_any F R _).mono ?_
  rintro e v2 ⟨rfl, hb⟩
  replace T := Lib.hid (Below.andThen T.out hb (Nat.le_refl _))
  replace C := Lib.hid (C.out.below hb)
  clear hb
  go_wp2_with fail
  refine (X1.out _).mono ?_
  rintro e v3 ⟨rfl, hb⟩
  replace T := Lib.hid (Below.al (Below.andThen T.out hb (Nat.le_refl _)) (Nat.le_refl _) (Obj.cells #[.string FF, .string FR] 23))
  replace C := Lib.hid ((C.out.below hb).alloc (Obj.cells #[.string FF, .string FR] 23))
  have A := Lib.hid (Two.new v3 FF FR 23)
  clear hb
  have c0 := C.out.2.1
  have c1 := C.out.2.2
  go_wp2_with fail
  generalize v3.alloc (Obj.cells #[.string FF, .string FR] 23) = V3 at *
  generalize v3.heap.size = b3 at *
  refine (given_any F R _).mono ?_
  rintro e v4 ⟨rfl, hb⟩
  clear c0 c1
  replace T := Lib.hid (Below.andThen T.out hb (Nat.le_refl _))
  replace C := Lib.hid (C.out.below hb)
  replace A := Lib.hid (A.out.below hb)
  clear hb
  go_wp2_with fail
  refine (X2.out _).mono ?_
  rintro e v5 ⟨rfl, hb⟩
  replace T := Lib.hid (Below.al (Below.andThen T.out hb (Nat.le_refl _)) (Nat.le_refl _) (Obj.cells #[.string NF, .string NR] 23))
  replace C := Lib.hid ((C.out.below hb).alloc (Obj.cells #[.string NF, .string NR] 23))
  replace A := Lib.hid ((A.out.below hb).alloc (Obj.cells #[.string NF, .string NR] 23))
  have B := Lib.hid (Two.new v5 NF NR 23)
  clear hb
  go_wp2_with fail
  generalize v5.alloc (Obj.cells #[.string NF, .string NR] 23) = V5 at *
  generalize v5.heap.size = b5 at *
  have k0 := Kl.cell C.out.1 C.out.2.1
  have k1 := Kl.cell C.out.1 C.out.2.2
  have k2 := Kl.cell A.out.1 A.out.2.1
  have k3 := Kl.cell A.out.1 A.out.2.2
  have k4 := Kl.cell B.out.1 B.out.2.1
  have k5 := Kl.cell B.out.1 B.out.2.2
  refine wp_region_below (by kernel_rfl) (by kernel_rfl) ?_
  repeat (go_big_quiet_step (first | exact Kl.call (X3.out _) | exact Kl.call (X4.out _) | exact Kl.call (same_self _ _ _) | exact Kl.call (awake_any _)))
  refine wpQuiet_nil ?_
  rintro _ ⟨wq, rfl⟩
  have T9 := Lib.hid (Below.andThen T.out wq.h (Nat.le_refl _))
  go_wp2_with fail
  exact bodyPost_ret (v := .bool true) (by simp [results, Try.results5, go_sem]) rfl ⟨rfl, T9.out⟩
end Go.Proofs.Ytbhlddfjfcmncaa
