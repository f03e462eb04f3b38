import Derived.Test.YtbhlddfjfcmncaaZi
import Derived.Test.YtbhlddfjfcmncaaYn
import Derived.Maps.OwnIn
import Derived.Maps.OwnSet
import Derived.RangeFuncNested
import Derived.RangeFuncBound
import Derived.RangeFuncCalls
import Derived.RangeFuncLeaves
import Derived.Shelf.Abstract
import Derived.Shelf.RegionOpen
import Derived.WalkKit
import Derived.OwnWalkIn
import Derived.TacticsInMore
import Derived.LoopNIn
import Derived.LoopIn
import Derived.WalkSpells
import Derived.WalkLawsBesides
import Derived.BigQuiet
import Derived.Deep.QuietTactic
import Derived.Lib.Hide
import Derived.Deep.RegionHeld3
import Derived.StillTailTactics
import Derived.Lib.MakeNoZero
import Derived.Laws.CopyOwn
import Derived.Deep.RegionLaw
import Derived.Deep.LoopGhost
import Derived.Deep.CutBlock
import Derived.Deep.DeepCutAuto
import Derived.Lib.IndexAny
namespace Go.Proofs.Ytbhlddfjfcmncaa
open Go.RowKit Go.Shelf
attribute [local go_sem] Oper.semAt_some
set_option maxRecDepth 100000 in
set_option maxHeartbeats 4000000 in
theorem TideLater_any (f r : ByteArray) (a0 : Int) (w : World) (hf : f.size ≤ 9223372036854775807) (hr : r.size ≤ 9223372036854775807) :
    Calls Try.prog 9 #[.agg #[.string f, .string r], .int .i64 a0] w fun e w' => e = .returned (.bool true) ∧ Below w.heap.size w w' := by
  have HT : Hid (∀ W, Calls Try.prog 37 #[.agg #[.string f, .string r], .int .i64 60] W fun e w' => e = .returned (.agg #[.string (bitsV f 60), .string (tameR r 60)]) ∧ Below W.heap.size W w') := Lib.hid (fun W => tame_any f r 60 W hf hr (by omega))
  obtain ⟨ht, y1, y2⟩ := tame_facts f r 60 (by omega) (by omega)
  obtain ⟨_, _, y3⟩ := tideB_size ht
  generalize bitsV f 60 = F at *
  generalize tameR r 60 = R at *
  have HTT := Lib.hid ht
  clear ht
  go_enter Try.func9, Try.ntmps9
  go_wp2_with fail
  refine (HT.out _).mono ?_
  rintro e v1 ⟨rfl, hb⟩
  have T := Lib.hid (Below.al (Below.trans (Below.al (Below.refl w.heap.size w) (Nat.le_refl _) (Obj.cells #[.string f, .string r] 23)) (hb.mono (by rw [size_al]; omega))) (Nat.le_refl _) (Obj.cells #[.string F, .string R] 24))
  have C := Lib.hid (Two.new v1 F R 24)
  clear hb
  go_wp2_with fail
  generalize v1.alloc (Obj.cells #[.string F, .string R] 24) = V1 at *
  generalize v1.heap.size = b1 at *
  go_loopw [1, 6, 7, 8, 9, 10] (fun x i _ _ _ _ wr => ∃ (k : Nat) (a : Int), k ≤ 2 ∧ x = .int .i64 a ∧ i = .int .i64 k ∧ Hid (Below w.heap.size w wr) ∧ Hid (Two wr b1 F R)) (fun _ i _ _ _ _ _ => 2 - (intOf i).toNat)
  case atStart => exact ⟨0, a0, by omega, rfl, rfl, T, C⟩
  case round =>
    clear T C
    obtain ⟨k, a, hk, rfl, rfl, T, C⟩ := hrel
    by_cases hlt : k < 2
    · by_cases ha : 0 ≤ a ∧ a ≤ 60
      · obtain ⟨n, hn⟩ : ∃ n : Nat, a = n := ⟨a.toNat, by omega⟩
        subst hn
        have hn9 : n ≤ 60 := by omega
        have t1 : ((n : Int) < 0) = False := by simp
        have t2 : decide ((60 : Int) < (n : Int)) = false := decide_eq_false (by omega)
        clear ha
        rcases later_cases F R n HTT.out hn9 with ⟨p, q, CN, CR⟩ | ⟨CN, CR⟩
        · have HN := Lib.hid CN
          have HR := Lib.hid CR
          clear CN CR
          have d00 := C.out.2.1
          have d01 := C.out.2.2
          go_wp2_with fail
          refine (given_any F R _).mono ?_
          rintro e w1 ⟨rfl, hb⟩
          clear d00 d01
          replace T := Lib.hid (Below.andThen T.out hb (Nat.le_refl _))
          replace C := Lib.hid (C.out.below hb)
          clear hb
          go_wp2_with fail
          refine (HN.out _).mono ?_
          rintro e w2 ⟨rfl, hb⟩
          replace T := Lib.hid (Below.andThen T.out hb (Nat.le_refl _))
          replace C := Lib.hid (C.out.below hb)
          clear hb
          replace T := Lib.hid (Below.al T.out (Nat.le_refl _) (Obj.cells #[.string p, .string q] 23))
          replace C := Lib.hid (C.out.alloc (Obj.cells #[.string p, .string q] 23))
          have D := Lib.hid (Two.new w2 p q 23)
          have d00 := C.out.2.1
          have d01 := C.out.2.2
          go_wp2_with fail
          generalize w2.alloc (Obj.cells #[.string p, .string q] 23) = V2 at *
          generalize w2.heap.size = b2 at *
          refine (HR.out _).mono ?_
          rintro e w3 ⟨rfl, hb⟩
          clear d00 d01
          replace T := Lib.hid (Below.andThen T.out hb (Nat.le_refl _))
          replace C := Lib.hid (C.out.below hb)
          replace D := Lib.hid (D.out.below hb)
          clear hb
          replace T := Lib.hid (Below.al T.out (Nat.le_refl _) (Obj.cells #[.string p, .string q] 24))
          replace C := Lib.hid (C.out.alloc (Obj.cells #[.string p, .string q] 24))
          replace D := Lib.hid (D.out.alloc (Obj.cells #[.string p, .string q] 24))
          have G := Lib.hid (Two.new w3 p q 24)
          have d00 := D.out.2.1
          have d01 := D.out.2.2
          have d10 := G.out.2.1
          have d11 := G.out.2.2
          go_wp2_with fail
          generalize w3.alloc (Obj.cells #[.string p, .string q] 24) = V3 at *
          generalize w3.heap.size = b3 at *
          refine (same_self p q _).mono ?_
          rintro e w4 ⟨rfl, hb⟩
          clear d00 d01
          clear d10 d11
          replace T := Lib.hid (Below.andThen T.out hb (Nat.le_refl _))
          replace C := Lib.hid (C.out.below hb)
          replace D := Lib.hid (D.out.below hb)
          replace G := Lib.hid (G.out.below hb)
          clear hb
          go_wp2_with fail
          go_roundw
          case rel => exact ⟨k + 1, _, by omega, rfl, rfl, T, C⟩
          case measure => simp [intOf]; omega
        · have HN := Lib.hid CN
          have HR := Lib.hid CR
          clear CN CR
          have d00 := C.out.2.1
          have d01 := C.out.2.2
          go_wp2_with fail
          refine (given_any F R _).mono ?_
          rintro e w1 ⟨rfl, hb⟩
          clear d00 d01
          replace T := Lib.hid (Below.andThen T.out hb (Nat.le_refl _))
          replace C := Lib.hid (C.out.below hb)
          clear hb
          go_wp2_with fail
          refine (HN.out _).mono ?_
          rintro e w2 ⟨rfl, hb⟩
          replace T := Lib.hid (Below.andThen T.out hb (Nat.le_refl _))
          replace C := Lib.hid (C.out.below hb)
          clear hb
          replace T := Lib.hid (Below.al T.out (Nat.le_refl _) (Obj.cells #[.string { data := #[] }, .string { data := #[] }] 23))
          replace C := Lib.hid (C.out.alloc (Obj.cells #[.string { data := #[] }, .string { data := #[] }] 23))
          have D := Lib.hid (Two.new w2 { data := #[] } { data := #[] } 23)
          have d00 := C.out.2.1
          have d01 := C.out.2.2
          go_wp2_with fail
          generalize w2.alloc (Obj.cells #[.string { data := #[] }, .string { data := #[] }] 23) = V2 at *
          generalize w2.heap.size = b2 at *
          refine (HR.out _).mono ?_
          rintro e w3 ⟨rfl, hb⟩
          clear d00 d01
          replace T := Lib.hid (Below.andThen T.out hb (Nat.le_refl _))
          replace C := Lib.hid (C.out.below hb)
          replace D := Lib.hid (D.out.below hb)
          clear hb
          replace T := Lib.hid (Below.al T.out (Nat.le_refl _) (Obj.cells #[.string { data := #[] }, .string { data := #[] }] 24))
          replace C := Lib.hid (C.out.alloc (Obj.cells #[.string { data := #[] }, .string { data := #[] }] 24))
          replace D := Lib.hid (D.out.alloc (Obj.cells #[.string { data := #[] }, .string { data := #[] }] 24))
          have G := Lib.hid (Two.new w3 { data := #[] } { data := #[] } 24)
          have d00 := D.out.2.1
          have d01 := D.out.2.2
          go_wp2_with fail
          generalize w3.alloc (Obj.cells #[.string { data := #[] }, .string { data := #[] }] 24) = V3 at *
          generalize w3.heap.size = b3 at *
          refine (same_self { data := #[] } { data := #[] } _).mono ?_
          rintro e w4 ⟨rfl, hb⟩
          clear d00 d01
          replace T := Lib.hid (Below.andThen T.out hb (Nat.le_refl _))
          replace C := Lib.hid (C.out.below hb)
          replace D := Lib.hid (D.out.below hb)
          clear hb
          go_wp2_with fail
          go_roundw
          case rel => exact ⟨k + 1, _, by omega, rfl, rfl, T, C⟩
          case measure => simp [intOf]; omega
      · have hc : (a < 0) ∨ (¬ a < 0 ∧ 60 < a) := by omega
        have HE := Lib.hid hc
        clear ha hc
        have d00 := C.out.2.1
        have d01 := C.out.2.2
        go_wp2_with fail
        refine (given_any F R _).mono ?_
        rintro e w1 ⟨rfl, hb⟩
        clear d00 d01
        replace T := Lib.hid (Below.andThen T.out hb (Nat.le_refl _))
        replace C := Lib.hid (C.out.below hb)
        clear hb
        go_wp2_with fail
        refine (Later_arg F R a _ HTT.out (by have := HE.out; omega)).mono ?_
        rintro e w2 ⟨rfl, hb⟩
        replace T := Lib.hid (Below.andThen T.out hb (Nat.le_refl _))
        replace C := Lib.hid (C.out.below hb)
        clear hb
        dsimp only [errV]
        replace T := Lib.hid (Below.al T.out (Nat.le_refl _) (Obj.cells #[.string ByteArray.empty, .string ByteArray.empty] 23))
        replace C := Lib.hid (C.out.alloc (Obj.cells #[.string ByteArray.empty, .string ByteArray.empty] 23))
        have D := Lib.hid (Two.new w2 ByteArray.empty ByteArray.empty 23)
        rcases HE.out with hc | ⟨hc1, hc2⟩
        all_goals
          clear HE
          have d00 := D.out.2.1
          have d01 := D.out.2.2
          go_wp2_with fail
          generalize w2.alloc (Obj.cells #[.string ByteArray.empty, .string ByteArray.empty] 23) = V2 at *
          generalize w2.heap.size = b2 at *
          refine (same_self { data := #[] } { data := #[] } _).mono ?_
          rintro e w4 ⟨rfl, hb⟩
          clear d00 d01
          replace T := Lib.hid (Below.andThen T.out hb (Nat.le_refl _))
          replace C := Lib.hid (C.out.below hb)
          replace D := Lib.hid (D.out.below hb)
          clear hb
          go_wp2_with fail
          go_roundw
          case rel => exact ⟨k + 1, _, by omega, rfl, rfl, T, C⟩
          case measure => simp [intOf]; omega
    · go_wp2_with fail
      refine (awake_any _).mono ?_
      rintro e vz ⟨rfl, hb⟩
      replace T := Lib.hid (Below.andThen T.out hb (Nat.le_refl _))
      clear hb
      go_wp2_with fail
      exact bodyPost_ret (v := .bool true) (by simp [results, Try.results9, go_sem]) rfl ⟨rfl, T.out⟩
end Go.Proofs.Ytbhlddfjfcmncaa
