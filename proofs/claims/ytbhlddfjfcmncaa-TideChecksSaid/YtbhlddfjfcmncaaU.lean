import Derived.Test.YtbhlddfjfcmncaaT
import Derived.Test.YtbhlddfjfcmncaaR
import Derived.Test.YtbhlddfjfcmncaaIter
import Derived.Maps.OwnIn
import Derived.Maps.OwnSet
import Derived.Test.YtbhlddfjfcmncaaShelf
import Derived.RangeFuncNested
import Derived.RangeFuncBound
import Derived.RangeFuncCalls
import Derived.RangeFuncLeaves
import Derived.Shelf.Abstract
import Derived.Shelf.RegionOpen
import Derived.WalkKit
import Derived.OwnWalkIn
import Derived.TacticsInMore
import Derived.LoopNIn
import Derived.LoopIn
import Derived.WalkSpells
import Derived.WalkLawsBesides
import Derived.BigQuiet
import Derived.Deep.QuietTactic
import Derived.Lib.Hide
import Derived.Deep.RegionHeld3
import Derived.StillTailTactics
import Derived.Lib.MakeNoZero
import Derived.Laws.CopyOwn
import Derived.Deep.RegionLaw
import Derived.Deep.LoopGhost
import Derived.Lib.IndexAny
namespace Go.Proofs.Ytbhlddfjfcmncaa
open Go.RowKit Go.Shelf
attribute [local go_sem] Oper.semAt_some
theorem Form_e (f r : ByteArray) (w : World) (x1 : f.size ≤ 61) (x2 : r.size ≤ 61) (ht : tideB (f, r) = false) :
    Calls Try.prog 23 #[.agg #[.string f, .string r]] w fun e w' => e = .returned (.tuple #[.agg #[.string sE, .string sE], .int .i64 10]) ∧ Below w.heap.size w w' := by
  have h := Form_any f r w (by omega) (by omega)
  rw [ht] at h; exact h
theorem Both_e (f r g s : ByteArray) (w : World) (x1 : f.size ≤ 61) (x2 : r.size ≤ 61) (x3 : g.size ≤ 61) (x4 : s.size ≤ 61) (ht : tideB (f, r) = false) :
    Calls Try.prog 25 #[.agg #[.string f, .string r], .agg #[.string g, .string s]] w fun e w' => e = .returned (.tuple #[.agg #[.string sE, .string sE], .int .i64 10]) ∧ Below w.heap.size w w' := by
  have h := Both_any f r g s w (by omega) (by omega) (by omega) (by omega)
  unfold combR at h; rw [ht] at h; exact h
theorem Either_e (f r g s : ByteArray) (w : World) (x1 : f.size ≤ 61) (x2 : r.size ≤ 61) (x3 : g.size ≤ 61) (x4 : s.size ≤ 61) (ht : tideB (g, s) = false) :
    Calls Try.prog 26 #[.agg #[.string f, .string r], .agg #[.string g, .string s]] w fun e w' => e = .returned (.tuple #[.agg #[.string sE, .string sE], .int .i64 10]) ∧ Below w.heap.size w w' := by
  have h := Either_any f r g s w (by omega) (by omega) (by omega) (by omega)
  unfold combR at h; rw [ht, Bool.and_false] at h; exact h
theorem Not_e (f r : ByteArray) (w : World) (x1 : f.size ≤ 61) (x2 : r.size ≤ 61) (ht : tideB (f, r) = false) :
    Calls Try.prog 27 #[.agg #[.string f, .string r]] w fun e w' => e = .returned (.tuple #[.agg #[.string sE, .string sE], .int .i64 10]) ∧ Below w.heap.size w w' := by
  have h := Not_any f r w (by omega) (by omega)
  unfold combR at h; rw [ht] at h; exact h
theorem Sum_e (f r g s : ByteArray) (w : World) (x1 : f.size ≤ 61) (x2 : r.size ≤ 61) (x3 : g.size ≤ 61) (x4 : s.size ≤ 61) (ht : tideB (g, s) = false) :
    Calls Try.prog 29 #[.agg #[.string f, .string r], .agg #[.string g, .string s]] w fun e w' => e = .returned (.tuple #[.agg #[.string sE, .string sE], .int .i64 10]) ∧ Below w.heap.size w w' := by
  have h := Sum_any f r g s w (by omega) (by omega) (by omega) (by omega)
  unfold sumR at h; rw [ht, Bool.and_false] at h; exact h
theorem Later_e (f r : ByteArray) (n : Int) (w : World) (x1 : f.size ≤ 61) (x2 : r.size ≤ 61) (ht : tideB (f, r) = false) :
    Calls Try.prog 28 #[.agg #[.string f, .string r], .int .i64 n] w fun e w' => e = .returned (.tuple #[.agg #[.string sE, .string sE], .int .i64 10]) ∧ Below w.heap.size w w' :=
  Later_err f r n w (by omega) (by omega) ht
set_option maxRecDepth 100000 in
set_option maxHeartbeats 4000000 in
theorem TideChecks_any (f r : ByteArray) (w : World) (hf : f.size ≤ 9223372036854775807) (hr : r.size ≤ 9223372036854775807) :
    Calls Try.prog 3 #[.agg #[.string f, .string r]] w fun e w' => e = .returned (.bool true) ∧ Below w.heap.size w w' := by
  have y1 : (f.extract 0 (min f.size 61)).size ≤ 61 := by rw [ByteArray.size_extract]; omega
  have y2 : (r.extract 0 (min r.size 61)).size ≤ 61 := by rw [ByteArray.size_extract]; omega
  have HO : Hid (∀ W, Calls Try.prog 17 #[.agg #[.string f, .string r]] W fun e w' => e = .returned (.agg #[.string (f.extract 0 (min f.size 61)), .string (r.extract 0 (min r.size 61))]) ∧ Below W.heap.size W w') := Lib.hid (fun W => own_any f r W hf hr)
  generalize f.extract 0 (min f.size 61) = F at *
  generalize r.extract 0 (min r.size 61) = R at *
  have m1 : F.size ≤ 9223372036854775807 := by omega
  have m2 : R.size ≤ 9223372036854775807 := by omega
  go_enter Try.func3, Try.ntmps3
  go_wp2_with fail
  refine (HO.out _).mono ?_
  rintro e v1 ⟨rfl, hb⟩
  have T := Lib.hid (Below.al (Below.trans (Below.al (Below.refl w.heap.size w) (Nat.le_refl _) (Obj.cells #[.string f, .string r] 23)) (hb.mono (by rw [size_al]; omega))) (Nat.le_refl _) (Obj.cells #[.string F, .string R] 24))
  have C := Lib.hid (Two.new v1 F R 24)
  clear hb
  go_wp2_with fail
  generalize v1.alloc (Obj.cells #[.string F, .string R] 24) = V1 at *
  generalize v1.heap.size = b1 at *
  refine (given_any F R _).mono ?_
  rintro e v2 ⟨rfl, hb⟩
  replace T := Lib.hid (Below.al (Below.andThen T.out hb (Nat.le_refl _)) (Nat.le_refl _) (Obj.cells #[.string F, .string R] 23))
  replace C := Lib.hid ((C.out.below hb).alloc (Obj.cells #[.string F, .string R] 23))
  have D := Lib.hid (Two.new v2 F R 23)
  clear hb
  have c0 := C.out.2.1
  have c1 := C.out.2.2
  go_wp2_with fail
  generalize v2.alloc (Obj.cells #[.string F, .string R] 23) = V2 at *
  generalize v2.heap.size = b2 at *
  refine (refCheck_any F R _ y1 y2).mono ?_
  rintro e v3 ⟨rfl, hb⟩
  replace T := Lib.hid (Below.andThen T.out hb (Nat.le_refl _))
  replace D := Lib.hid (D.out.below hb)
  clear hb C c0 c1
  have d0 := D.out.2.1
  have d1 := D.out.2.2
  go_wp2_with fail
  clear d0 d1
  refine (Check_any F R _ m1 m2).mono ?_
  rintro e v4 ⟨rfl, hb⟩
  replace T := Lib.hid (Below.andThen T.out hb (Nat.le_refl _))
  replace D := Lib.hid (D.out.below hb)
  clear hb
  cases ht : tideB (F, R)
  · have HE := checkE_no ht
    have E0 := Lib.hid (checkE_no ht)
    have HT := Lib.hid ht
    clear ht
    replace T := Lib.hid (Below.al T.out (Nat.le_refl _) (Obj.cells #[.string sE, .string s1] 23))
    have Z := Lib.hid (Two.new v4 sE s1 23)
    replace D := Lib.hid (D.out.alloc (Obj.cells #[.string sE, .string s1] 23))
    obtain ⟨b4, hb4⟩ : ∃ n, n = v4.heap.size := ⟨_, rfl⟩
    obtain ⟨V4, hV4⟩ : ∃ V, V = v4.alloc (Obj.cells #[.string sE, .string s1] 23) := ⟨_, rfl⟩
    rw [← hb4, ← hV4] at Z
    rw [← hV4] at T D
    have d0 := D.out.2.1
    have d1 := D.out.2.2
    have z0 := Z.out.2.1
    have z1 := Z.out.2.2
    rw [hV4] at d0 d1 z0 z1
    go_wp2_with fail
    rw [← hb4, ← hV4]
    clear hb4 hV4
    -- Has
    refine (Has_err F R (-1) 10 _ m1 m2 (checkAtE_no HT.out) rfl).mono ?_
    rintro e w0 ⟨rfl, hb⟩
    clear d0 d1 z0 z1
    replace T := Lib.hid (Below.andThen T.out hb (Nat.le_refl _))
    replace D := Lib.hid (D.out.below hb)
    replace Z := Lib.hid (Z.out.below hb)
    clear hb
    have d0 := D.out.2.1
    have d1 := D.out.2.2
    have z0 := Z.out.2.1
    have z1 := Z.out.2.2
    go_wp2_with fail
    -- Form
    refine (Form_e F R _ y1 y2 HT.out).mono ?_
    rintro e w1 ⟨rfl, hb⟩
    clear d0 d1 z0 z1
    replace T := Lib.hid (Below.al (Below.andThen T.out hb (Nat.le_refl _)) (Nat.le_refl _) (Obj.cells #[.string sE, .string sE] 23))
    replace D := Lib.hid ((D.out.below hb).alloc (Obj.cells #[.string sE, .string sE] 23))
    replace Z := Lib.hid ((Z.out.below hb).alloc (Obj.cells #[.string sE, .string sE] 23))
    have A1 := Lib.hid (Two.new w1 sE sE 23)
    clear hb
    obtain ⟨n1, hn1⟩ : ∃ n, n = w1.heap.size := ⟨_, rfl⟩
    obtain ⟨V6, hV6⟩ : ∃ V, V = w1.alloc (Obj.cells #[.string sE, .string sE] 23) := ⟨_, rfl⟩
    rw [← hn1, ← hV6] at A1
    rw [← hV6] at T D Z
    have d0 := D.out.2.1
    have d1 := D.out.2.2
    have z0 := Z.out.2.1
    have z1 := Z.out.2.2
    rw [hV6] at d0 d1 z0 z1
    go_wp2_with fail
    rw [← hn1, ← hV6]
    clear hV6 hn1
    -- Same
    refine (Same_err sE s1 F R _ (checkE2_no2 HT.out) (by decide) (by decide) m1 m2).mono ?_
    rintro e w2 ⟨rfl, hb⟩
    clear d0 d1 z0 z1
    replace T := Lib.hid (Below.andThen T.out hb (Nat.le_refl _))
    replace D := Lib.hid (D.out.below hb)
    replace Z := Lib.hid (Z.out.below hb)
    replace A1 := Lib.hid (A1.out.below hb)
    clear hb
    have d0 := D.out.2.1
    have d1 := D.out.2.2
    have z0 := Z.out.2.1
    have z1 := Z.out.2.2
    go_wp2_with fail
    -- Both
    refine (Both_e F R sE s1 _ y1 y2 (by decide) (by decide) HT.out).mono ?_
    rintro e w3 ⟨rfl, hb⟩
    clear d0 d1 z0 z1
    replace T := Lib.hid (Below.al (Below.andThen T.out hb (Nat.le_refl _)) (Nat.le_refl _) (Obj.cells #[.string sE, .string sE] 23))
    replace D := Lib.hid ((D.out.below hb).alloc (Obj.cells #[.string sE, .string sE] 23))
    replace Z := Lib.hid ((Z.out.below hb).alloc (Obj.cells #[.string sE, .string sE] 23))
    replace A1 := Lib.hid ((A1.out.below hb).alloc (Obj.cells #[.string sE, .string sE] 23))
    have A3 := Lib.hid (Two.new w3 sE sE 23)
    clear hb
    obtain ⟨n3, hn3⟩ : ∃ n, n = w3.heap.size := ⟨_, rfl⟩
    obtain ⟨V8, hV8⟩ : ∃ V, V = w3.alloc (Obj.cells #[.string sE, .string sE] 23) := ⟨_, rfl⟩
    rw [← hn3, ← hV8] at A3
    rw [← hV8] at T D Z A1
    have d0 := D.out.2.1
    have d1 := D.out.2.2
    have z0 := Z.out.2.1
    have z1 := Z.out.2.2
    rw [hV8] at d0 d1 z0 z1
    go_wp2_with fail
    rw [← hn3, ← hV8]
    clear hV8 hn3
    -- Either
    refine (Either_e sE s1 F R _ (by decide) (by decide) y1 y2 HT.out).mono ?_
    rintro e w4 ⟨rfl, hb⟩
    clear d0 d1 z0 z1
    replace T := Lib.hid (Below.al (Below.andThen T.out hb (Nat.le_refl _)) (Nat.le_refl _) (Obj.cells #[.string sE, .string sE] 23))
    replace D := Lib.hid ((D.out.below hb).alloc (Obj.cells #[.string sE, .string sE] 23))
    replace Z := Lib.hid ((Z.out.below hb).alloc (Obj.cells #[.string sE, .string sE] 23))
    replace A1 := Lib.hid ((A1.out.below hb).alloc (Obj.cells #[.string sE, .string sE] 23))
    replace A3 := Lib.hid ((A3.out.below hb).alloc (Obj.cells #[.string sE, .string sE] 23))
    have A4 := Lib.hid (Two.new w4 sE sE 23)
    clear hb
    obtain ⟨n4, hn4⟩ : ∃ n, n = w4.heap.size := ⟨_, rfl⟩
    obtain ⟨V9, hV9⟩ : ∃ V, V = w4.alloc (Obj.cells #[.string sE, .string sE] 23) := ⟨_, rfl⟩
    rw [← hn4, ← hV9] at A4
    rw [← hV9] at T D Z A1 A3
    have d0 := D.out.2.1
    have d1 := D.out.2.2
    have z0 := Z.out.2.1
    have z1 := Z.out.2.2
    rw [hV9] at d0 d1 z0 z1
    go_wp2_with fail
    rw [← hn4, ← hV9]
    clear hV9 hn4
    -- Not
    refine (Not_e F R _ y1 y2 HT.out).mono ?_
    rintro e w5 ⟨rfl, hb⟩
    clear d0 d1 z0 z1
    replace T := Lib.hid (Below.al (Below.andThen T.out hb (Nat.le_refl _)) (Nat.le_refl _) (Obj.cells #[.string sE, .string sE] 23))
    replace D := Lib.hid ((D.out.below hb).alloc (Obj.cells #[.string sE, .string sE] 23))
    replace Z := Lib.hid ((Z.out.below hb).alloc (Obj.cells #[.string sE, .string sE] 23))
    replace A1 := Lib.hid ((A1.out.below hb).alloc (Obj.cells #[.string sE, .string sE] 23))
    replace A3 := Lib.hid ((A3.out.below hb).alloc (Obj.cells #[.string sE, .string sE] 23))
    replace A4 := Lib.hid ((A4.out.below hb).alloc (Obj.cells #[.string sE, .string sE] 23))
    have A5 := Lib.hid (Two.new w5 sE sE 23)
    clear hb
    obtain ⟨n5, hn5⟩ : ∃ n, n = w5.heap.size := ⟨_, rfl⟩
    obtain ⟨V10, hV10⟩ : ∃ V, V = w5.alloc (Obj.cells #[.string sE, .string sE] 23) := ⟨_, rfl⟩
    rw [← hn5, ← hV10] at A5
    rw [← hV10] at T D Z A1 A3 A4
    have d0 := D.out.2.1
    have d1 := D.out.2.2
    have z0 := Z.out.2.1
    have z1 := Z.out.2.2
    rw [hV10] at d0 d1 z0 z1
    go_wp2_with fail
    rw [← hn5, ← hV10]
    clear hV10 hn5
    -- Later
    refine (Later_e F R 61 _ y1 y2 HT.out).mono ?_
    rintro e w6 ⟨rfl, hb⟩
    clear d0 d1 z0 z1
    replace T := Lib.hid (Below.al (Below.andThen T.out hb (Nat.le_refl _)) (Nat.le_refl _) (Obj.cells #[.string sE, .string sE] 23))
    replace D := Lib.hid ((D.out.below hb).alloc (Obj.cells #[.string sE, .string sE] 23))
    replace Z := Lib.hid ((Z.out.below hb).alloc (Obj.cells #[.string sE, .string sE] 23))
    replace A1 := Lib.hid ((A1.out.below hb).alloc (Obj.cells #[.string sE, .string sE] 23))
    replace A3 := Lib.hid ((A3.out.below hb).alloc (Obj.cells #[.string sE, .string sE] 23))
    replace A4 := Lib.hid ((A4.out.below hb).alloc (Obj.cells #[.string sE, .string sE] 23))
    replace A5 := Lib.hid ((A5.out.below hb).alloc (Obj.cells #[.string sE, .string sE] 23))
    have A6 := Lib.hid (Two.new w6 sE sE 23)
    clear hb
    obtain ⟨n6, hn6⟩ : ∃ n, n = w6.heap.size := ⟨_, rfl⟩
    obtain ⟨V11, hV11⟩ : ∃ V, V = w6.alloc (Obj.cells #[.string sE, .string sE] 23) := ⟨_, rfl⟩
    rw [← hn6, ← hV11] at A6
    rw [← hV11] at T D Z A1 A3 A4 A5
    have d0 := D.out.2.1
    have d1 := D.out.2.2
    have z0 := Z.out.2.1
    have z1 := Z.out.2.2
    rw [hV11] at d0 d1 z0 z1
    go_wp2_with fail
    rw [← hn6, ← hV11]
    clear hV11 hn6
    -- Sum
    refine (Sum_e sE s1 F R _ (by decide) (by decide) y1 y2 HT.out).mono ?_
    rintro e w7 ⟨rfl, hb⟩
    clear d0 d1 z0 z1
    replace T := Lib.hid (Below.al (Below.andThen T.out hb (Nat.le_refl _)) (Nat.le_refl _) (Obj.cells #[.string sE, .string sE] 23))
    replace D := Lib.hid ((D.out.below hb).alloc (Obj.cells #[.string sE, .string sE] 23))
    replace Z := Lib.hid ((Z.out.below hb).alloc (Obj.cells #[.string sE, .string sE] 23))
    replace A1 := Lib.hid ((A1.out.below hb).alloc (Obj.cells #[.string sE, .string sE] 23))
    replace A3 := Lib.hid ((A3.out.below hb).alloc (Obj.cells #[.string sE, .string sE] 23))
    replace A4 := Lib.hid ((A4.out.below hb).alloc (Obj.cells #[.string sE, .string sE] 23))
    replace A5 := Lib.hid ((A5.out.below hb).alloc (Obj.cells #[.string sE, .string sE] 23))
    replace A6 := Lib.hid ((A6.out.below hb).alloc (Obj.cells #[.string sE, .string sE] 23))
    have A7 := Lib.hid (Two.new w7 sE sE 23)
    clear hb
    obtain ⟨n7, hn7⟩ : ∃ n, n = w7.heap.size := ⟨_, rfl⟩
    obtain ⟨V12, hV12⟩ : ∃ V, V = w7.alloc (Obj.cells #[.string sE, .string sE] 23) := ⟨_, rfl⟩
    rw [← hn7, ← hV12] at A7
    rw [← hV12] at T D Z A1 A3 A4 A5 A6
    have d0 := D.out.2.1
    have d1 := D.out.2.2
    have z0 := Z.out.2.1
    have z1 := Z.out.2.2
    rw [hV12] at d0 d1 z0 z1
    go_wp2_with fail
    rw [← hn7, ← hV12]
    clear hV12 hn7
    -- Wait
    refine (Wait_err F R (-1) 10 _ m1 m2 (checkAtE_no HT.out) rfl).mono ?_
    rintro e w8 ⟨rfl, hb⟩
    clear d0 d1 z0 z1
    replace T := Lib.hid (Below.andThen T.out hb (Nat.le_refl _))
    replace D := Lib.hid (D.out.below hb)
    replace Z := Lib.hid (Z.out.below hb)
    replace A1 := Lib.hid (A1.out.below hb)
    replace A3 := Lib.hid (A3.out.below hb)
    replace A4 := Lib.hid (A4.out.below hb)
    replace A5 := Lib.hid (A5.out.below hb)
    replace A6 := Lib.hid (A6.out.below hb)
    replace A7 := Lib.hid (A7.out.below hb)
    clear hb
    have d0 := D.out.2.1
    have d1 := D.out.2.2
    have z0 := Z.out.2.1
    have z1 := Z.out.2.2
    go_wp2_with fail
    -- Count
    refine (Count_err F R (-1) 10 _ m1 m2 (checkAtE_no HT.out) rfl).mono ?_
    rintro e w9 ⟨rfl, hb⟩
    clear d0 d1 z0 z1
    replace T := Lib.hid (Below.andThen T.out hb (Nat.le_refl _))
    replace D := Lib.hid (D.out.below hb)
    replace Z := Lib.hid (Z.out.below hb)
    replace A1 := Lib.hid (A1.out.below hb)
    replace A3 := Lib.hid (A3.out.below hb)
    replace A4 := Lib.hid (A4.out.below hb)
    replace A5 := Lib.hid (A5.out.below hb)
    replace A6 := Lib.hid (A6.out.below hb)
    replace A7 := Lib.hid (A7.out.below hb)
    clear hb
    have d0 := D.out.2.1
    have d1 := D.out.2.2
    have z0 := Z.out.2.1
    have z1 := Z.out.2.2
    go_wp2_with fail
    -- Nth
    refine (Nth_err F R (-1) _ m1 m2 HT.out).mono ?_
    rintro e w10 ⟨rfl, hb⟩
    clear d0 d1 z0 z1
    replace T := Lib.hid (Below.andThen T.out hb (Nat.le_refl _))
    replace D := Lib.hid (D.out.below hb)
    replace Z := Lib.hid (Z.out.below hb)
    replace A1 := Lib.hid (A1.out.below hb)
    replace A3 := Lib.hid (A3.out.below hb)
    replace A4 := Lib.hid (A4.out.below hb)
    replace A5 := Lib.hid (A5.out.below hb)
    replace A6 := Lib.hid (A6.out.below hb)
    replace A7 := Lib.hid (A7.out.below hb)
    clear hb
    have d0 := D.out.2.1
    have d1 := D.out.2.2
    have z0 := Z.out.2.1
    have z1 := Z.out.2.2
    go_wp2_with fail
    -- Endless
    refine (Endless_err F R _ m1 m2 HT.out).mono ?_
    rintro e w11 ⟨rfl, hb⟩
    clear d0 d1 z0 z1
    replace T := Lib.hid (Below.andThen T.out hb (Nat.le_refl _))
    replace D := Lib.hid (D.out.below hb)
    replace Z := Lib.hid (Z.out.below hb)
    replace A1 := Lib.hid (A1.out.below hb)
    replace A3 := Lib.hid (A3.out.below hb)
    replace A4 := Lib.hid (A4.out.below hb)
    replace A5 := Lib.hid (A5.out.below hb)
    replace A6 := Lib.hid (A6.out.below hb)
    replace A7 := Lib.hid (A7.out.below hb)
    clear hb
    have d0 := D.out.2.1
    have d1 := D.out.2.2
    have z0 := Z.out.2.1
    have z1 := Z.out.2.2
    go_wp2_with fail
    -- Longest
    refine (Longest_err F R _ m1 m2 HT.out).mono ?_
    rintro e w12 ⟨rfl, hb⟩
    clear d0 d1 z0 z1
    replace T := Lib.hid (Below.andThen T.out hb (Nat.le_refl _))
    replace D := Lib.hid (D.out.below hb)
    replace Z := Lib.hid (Z.out.below hb)
    replace A1 := Lib.hid (A1.out.below hb)
    replace A3 := Lib.hid (A3.out.below hb)
    replace A4 := Lib.hid (A4.out.below hb)
    replace A5 := Lib.hid (A5.out.below hb)
    replace A6 := Lib.hid (A6.out.below hb)
    replace A7 := Lib.hid (A7.out.below hb)
    clear hb
    have d0 := D.out.2.1
    have d1 := D.out.2.2
    have z0 := Z.out.2.1
    have z1 := Z.out.2.2
    go_wp2_with fail
    -- Worst
    refine (Worst_err F R _ m1 m2 HT.out).mono ?_
    rintro e w13 ⟨rfl, hb⟩
    clear d0 d1 z0 z1
    replace T := Lib.hid (Below.andThen T.out hb (Nat.le_refl _))
    replace D := Lib.hid (D.out.below hb)
    replace Z := Lib.hid (Z.out.below hb)
    replace A1 := Lib.hid (A1.out.below hb)
    replace A3 := Lib.hid (A3.out.below hb)
    replace A4 := Lib.hid (A4.out.below hb)
    replace A5 := Lib.hid (A5.out.below hb)
    replace A6 := Lib.hid (A6.out.below hb)
    replace A7 := Lib.hid (A7.out.below hb)
    clear hb
    have d0 := D.out.2.1
    have d1 := D.out.2.2
    have z0 := Z.out.2.1
    have z1 := Z.out.2.2
    go_wp2_with fail
    -- Gaps
    refine (Gaps_err F R _ m1 m2 HT.out).mono ?_
    rintro e w14 ⟨rfl, hb⟩
    clear d0 d1 z0 z1
    replace T := Lib.hid (Below.andThen T.out hb (Nat.le_refl _))
    replace D := Lib.hid (D.out.below hb)
    replace Z := Lib.hid (Z.out.below hb)
    replace A1 := Lib.hid (A1.out.below hb)
    replace A3 := Lib.hid (A3.out.below hb)
    replace A4 := Lib.hid (A4.out.below hb)
    replace A5 := Lib.hid (A5.out.below hb)
    replace A6 := Lib.hid (A6.out.below hb)
    replace A7 := Lib.hid (A7.out.below hb)
    clear hb
    replace T := Lib.hid (Below.al T.out (Nat.le_refl _) (Obj.cells #[.string sE, .string sE] 23))
    replace D := Lib.hid (D.out.alloc (Obj.cells #[.string sE, .string sE] 23))
    replace Z := Lib.hid (Z.out.alloc (Obj.cells #[.string sE, .string sE] 23))
    replace A1 := Lib.hid (A1.out.alloc (Obj.cells #[.string sE, .string sE] 23))
    replace A3 := Lib.hid (A3.out.alloc (Obj.cells #[.string sE, .string sE] 23))
    replace A4 := Lib.hid (A4.out.alloc (Obj.cells #[.string sE, .string sE] 23))
    replace A5 := Lib.hid (A5.out.alloc (Obj.cells #[.string sE, .string sE] 23))
    replace A6 := Lib.hid (A6.out.alloc (Obj.cells #[.string sE, .string sE] 23))
    replace A7 := Lib.hid (A7.out.alloc (Obj.cells #[.string sE, .string sE] 23))
    have X := Lib.hid (Two.new w14 sE sE 23)
    obtain ⟨bx, hbx⟩ : ∃ n, n = w14.heap.size := ⟨_, rfl⟩
    obtain ⟨VX, hVX⟩ : ∃ V, V = w14.alloc (Obj.cells #[.string sE, .string sE] 23) := ⟨_, rfl⟩
    rw [← hbx, ← hVX] at X
    rw [← hVX] at T D Z A1 A3 A4 A5 A6 A7
    have d0 := D.out.2.1
    have d1 := D.out.2.2
    rw [hVX] at d0 d1
    go_wp2_with fail
    rw [← hbx, ← hVX]
    clear hVX hbx d0 d1
    refine (Check_any F R _ m1 m2).mono ?_
    rintro e vy ⟨rfl, hb⟩
    replace T := Lib.hid (Below.andThen T.out hb (Nat.le_refl _))
    obtain ⟨_, D0, D1⟩ := D.out.below hb
    obtain ⟨_, Z0, Z1⟩ := Z.out.below hb
    obtain ⟨_, A10, A11⟩ := A1.out.below hb
    obtain ⟨_, A30, A31⟩ := A3.out.below hb
    obtain ⟨_, A40, A41⟩ := A4.out.below hb
    obtain ⟨_, A50, A51⟩ := A5.out.below hb
    obtain ⟨_, A60, A61⟩ := A6.out.below hb
    obtain ⟨_, A70, A71⟩ := A7.out.below hb
    obtain ⟨_, X0, X1⟩ := X.out.below hb
    clear hb
    rw [E0.out]
    go_wp2_with fail
    refine (awake_any _).mono ?_
    rintro e vz ⟨rfl, hb⟩
    replace T := Lib.hid (Below.andThen T.out hb (Nat.le_refl _))
    clear hb
    go_wp2_with fail
    exact bodyPost_ret (v := .bool true) (by simp [results, Try.results3, go_sem]) rfl ⟨rfl, T.out⟩
  · have HE := checkE_ok ht
    clear ht
    go_wp2_with fail
    refine (awake_any _).mono ?_
    rintro e vz ⟨rfl, hb⟩
    replace T := Lib.hid (Below.andThen T.out hb (Nat.le_refl _))
    clear hb
    go_wp2_with fail
    exact bodyPost_ret (v := .bool true) (by simp [results, Try.results3, go_sem]) rfl ⟨rfl, T.out⟩
end Go.Proofs.Ytbhlddfjfcmncaa
