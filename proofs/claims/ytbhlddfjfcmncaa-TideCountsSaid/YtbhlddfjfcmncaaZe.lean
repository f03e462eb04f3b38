import Derived.Test.YtbhlddfjfcmncaaZd
import Derived.Test.YtbhlddfjfcmncaaYg
import Derived.Maps.OwnIn
import Derived.Maps.OwnSet
import Derived.RangeFuncNested
import Derived.RangeFuncBound
import Derived.RangeFuncCalls
import Derived.RangeFuncLeaves
import Derived.Shelf.Abstract
import Derived.Shelf.RegionOpen
import Derived.WalkKit
import Derived.OwnWalkIn
import Derived.TacticsInMore
import Derived.LoopNIn
import Derived.LoopIn
import Derived.WalkSpells
import Derived.WalkLawsBesides
import Derived.BigQuiet
import Derived.Deep.QuietTactic
import Derived.Lib.Hide
import Derived.Deep.RegionHeld3
import Derived.StillTailTactics
import Derived.Lib.MakeNoZero
import Derived.Laws.CopyOwn
import Derived.Deep.RegionLaw
import Derived.Deep.LoopGhost
import Derived.Deep.CutBlock
import Derived.Deep.DeepCutAuto
import Derived.Lib.IndexAny
namespace Go.Proofs.Ytbhlddfjfcmncaa
open Go.RowKit Go.Shelf
attribute [local go_sem] Oper.semAt_some
theorem nth_cases (f r : ByteArray) (n : Nat) (ht : tideB (f, r) = true) (hn : n ≤ 1000000) :
    (∃ k : Nat, k ≤ 1000000000 ∧ IsNth (hasB f r) 0 n k ∧ (∀ W, Calls Try.prog 32 #[.agg #[.string f, .string r], .int .i64 n] W fun e w' => e = .returned (.tuple #[.int .i64 k, .int .i64 0]) ∧ Below W.heap.size W w') ∧
      (∀ W, Calls Try.prog 48 #[.agg #[.string f, .string r], .int .i64 n] W fun e w' => e = .returned (.int .i64 k) ∧ Below W.heap.size W w')) ∨
    (ones r.data.toList = 0 ∧ ones f.data.toList ≤ n ∧ (∀ W, Calls Try.prog 32 #[.agg #[.string f, .string r], .int .i64 n] W fun e w' => e = .returned (.tuple #[.int .i64 0, .int .i64 4]) ∧ Below W.heap.size W w') ∧
      (∀ W, Calls Try.prog 48 #[.agg #[.string f, .string r], .int .i64 n] W fun e w' => e = .returned (.int .i64 (-1)) ∧ Below W.heap.size W w')) := by
  obtain ⟨z1, z2, z3⟩ := tideB_size ht
  by_cases hA : n < ones f.data.toList
  · obtain ⟨k, h1, h2⟩ := nth_early f r n hA
    refine .inl ⟨k, by omega, h1, fun W => Nth_early f r n k W ht hA h1 (by omega), fun W => refNth_some f r n k W z1 z2 z3 hn (.inl hA) h1 ?_ (by omega)⟩
    unfold nthAt; rw [if_pos hA]; omega
  · by_cases hB : ones r.data.toList = 0
    · exact .inr ⟨hB, by omega, fun W => Nth_none f r n W ht hA hn hB, fun W => refNth_none f r n W z1 z2 hA hB⟩
    · obtain ⟨k, h1, h2, h3⟩ := nth_late f r n hA (by omega)
      have u1 : (n - ones f.data.toList) / ones r.data.toList ≤ 1000000 := Nat.le_trans (Nat.div_le_self _ _) (by omega)
      have u2 : (n - ones f.data.toList) / ones r.data.toList * r.size ≤ 1000000 * 60 := Nat.mul_le_mul u1 z2
      refine .inl ⟨k, by omega, h2, fun W => Nth_late f r n k W ht hA hn (by omega) h1 (by omega), fun W => refNth_some f r n k W z1 z2 z3 hn (.inr (by omega)) h2 ?_ (by omega)⟩
      unfold nthAt; rw [if_neg hA]; exact h1.1
set_option maxRecDepth 100000 in
set_option maxHeartbeats 4000000 in
theorem TideNths_any (f r : ByteArray) (a0 : Int) (w : World) (hf : f.size ≤ 9223372036854775807) (hr : r.size ≤ 9223372036854775807) :
    Calls Try.prog 10 #[.agg #[.string f, .string r], .int .i64 a0] w fun e w' => e = .returned (.bool true) ∧ Below w.heap.size w w' := by
  have HT : Hid (∀ W, Calls Try.prog 37 #[.agg #[.string f, .string r], .int .i64 60] W fun e w' => e = .returned (.agg #[.string (bitsV f 60), .string (tameR r 60)]) ∧ Below W.heap.size W w') := Lib.hid (fun W => tame_any f r 60 W hf hr (by omega))
  obtain ⟨ht, y1, y2⟩ := tame_facts f r 60 (by omega) (by omega)
  obtain ⟨_, _, y3⟩ := tideB_size ht
  generalize bitsV f 60 = F at *
  generalize tameR r 60 = R at *
  have HTT := Lib.hid ht
  clear ht
  go_enter Try.func10, Try.ntmps10
  go_wp2_with fail
  refine (HT.out _).mono ?_
  rintro e v1 ⟨rfl, hb⟩
  have T := Lib.hid (Below.al (Below.trans (Below.al (Below.refl w.heap.size w) (Nat.le_refl _) (Obj.cells #[.string f, .string r] 23)) (hb.mono (by rw [size_al]; omega))) (Nat.le_refl _) (Obj.cells #[.string F, .string R] 24))
  have C := Lib.hid (Two.new v1 F R 24)
  clear hb
  go_wp2_with fail
  generalize v1.alloc (Obj.cells #[.string F, .string R] 24) = V1 at *
  generalize v1.heap.size = b1 at *
  go_loopw [1, 6, 7, 8, 9] (fun x i _ _ _ wr => ∃ (k : Nat) (a : Int), k ≤ 3 ∧ x = .int .i64 a ∧ i = .int .i64 k ∧ Hid (Below w.heap.size w wr) ∧ Hid (Two wr b1 F R)) (fun _ i _ _ _ _ => 3 - (intOf i).toNat)
  case atStart => exact ⟨0, a0, by omega, rfl, rfl, T, C⟩
  case round =>
    clear T C
    obtain ⟨k, a, hk, rfl, rfl, T, C⟩ := hrel
    by_cases hlt : k < 3
    · by_cases ha : 0 ≤ a ∧ a ≤ 1000000
      · obtain ⟨n, hn⟩ : ∃ n : Nat, a = n := ⟨a.toNat, by omega⟩
        subst hn
        have hn9 : n ≤ 1000000 := by omega
        clear ha
        rcases nth_cases F R n HTT.out hn9 with ⟨j, hj, _, CN, CR⟩ | ⟨_, _, CN, CR⟩
        · have HN := Lib.hid CN
          have HR := Lib.hid CR
          clear CN CR
          have d0 := C.out.2.1
          have d1 := C.out.2.2
          go_wp2_with fail
          refine (given_any F R _).mono ?_
          rintro e w1 ⟨rfl, hb⟩
          clear d0 d1
          replace T := Lib.hid (Below.andThen T.out hb (Nat.le_refl _))
          replace C := Lib.hid (C.out.below hb)
          clear hb
          go_wp2_with fail
          refine (HN.out _).mono ?_
          rintro e w2 ⟨rfl, hb⟩
          replace T := Lib.hid (Below.andThen T.out hb (Nat.le_refl _))
          replace C := Lib.hid (C.out.below hb)
          clear hb
          have d0 := C.out.2.1
          have d1 := C.out.2.2
          go_wp2_with fail
          refine (HR.out _).mono ?_
          rintro e w3 ⟨rfl, hb⟩
          clear d0 d1
          replace T := Lib.hid (Below.andThen T.out hb (Nat.le_refl _))
          replace C := Lib.hid (C.out.below hb)
          clear hb
          by_cases hk1 : k = 1
          · go_wp2_with fail
            go_roundw
            case rel => exact ⟨2, _, by omega, rfl, rfl, T, C⟩
            case measure => simp [intOf]; omega
          · have hk2 : ((k : Int) == 1) = false := beq_eq_false_iff_ne.2 (by omega)
            go_wp2_with fail
            go_roundw
            case rel => exact ⟨k + 1, _, by omega, rfl, rfl, T, C⟩
            case measure => simp [intOf]; omega
        · have HN := Lib.hid CN
          have HR := Lib.hid CR
          clear CN CR
          have d0 := C.out.2.1
          have d1 := C.out.2.2
          go_wp2_with fail
          refine (given_any F R _).mono ?_
          rintro e w1 ⟨rfl, hb⟩
          clear d0 d1
          replace T := Lib.hid (Below.andThen T.out hb (Nat.le_refl _))
          replace C := Lib.hid (C.out.below hb)
          clear hb
          go_wp2_with fail
          refine (HN.out _).mono ?_
          rintro e w2 ⟨rfl, hb⟩
          replace T := Lib.hid (Below.andThen T.out hb (Nat.le_refl _))
          replace C := Lib.hid (C.out.below hb)
          clear hb
          have d0 := C.out.2.1
          have d1 := C.out.2.2
          go_wp2_with fail
          refine (HR.out _).mono ?_
          rintro e w3 ⟨rfl, hb⟩
          clear d0 d1
          replace T := Lib.hid (Below.andThen T.out hb (Nat.le_refl _))
          replace C := Lib.hid (C.out.below hb)
          clear hb
          by_cases hk1 : k = 1
          · go_wp2_with fail
            go_roundw
            case rel => exact ⟨2, _, by omega, rfl, rfl, T, C⟩
            case measure => simp [intOf]; omega
          · have hk2 : ((k : Int) == 1) = false := beq_eq_false_iff_ne.2 (by omega)
            go_wp2_with fail
            go_roundw
            case rel => exact ⟨k + 1, _, by omega, rfl, rfl, T, C⟩
            case measure => simp [intOf]; omega
      · have hc : (a < 0) ∨ (¬ a < 0 ∧ 1000000 < a) := by omega
        have HE := Lib.hid hc
        clear ha hc
        have d0 := C.out.2.1
        have d1 := C.out.2.2
        go_wp2_with fail
        refine (given_any F R _).mono ?_
        rintro e w1 ⟨rfl, hb⟩
        clear d0 d1
        replace T := Lib.hid (Below.andThen T.out hb (Nat.le_refl _))
        replace C := Lib.hid (C.out.below hb)
        clear hb
        go_wp2_with fail
        refine (Nth_arg F R a _ HTT.out (by have := HE.out; omega)).mono ?_
        rintro e w2 ⟨rfl, hb⟩
        replace T := Lib.hid (Below.andThen T.out hb (Nat.le_refl _))
        replace C := Lib.hid (C.out.below hb)
        clear hb
        rcases HE.out with hc | ⟨hc1, hc2⟩
        all_goals
          clear HE
          by_cases hk1 : k = 1
          · go_wp2_with fail
            go_roundw
            case rel => exact ⟨2, _, by omega, rfl, rfl, T, C⟩
            case measure => simp [intOf]; omega
          · have hk2 : ((k : Int) == 1) = false := beq_eq_false_iff_ne.2 (by omega)
            go_wp2_with fail
            go_roundw
            case rel => exact ⟨k + 1, _, by omega, rfl, rfl, T, C⟩
            case measure => simp [intOf]; omega
    · go_wp2_with fail
      refine (awake_any _).mono ?_
      rintro e vz ⟨rfl, hb⟩
      replace T := Lib.hid (Below.andThen T.out hb (Nat.le_refl _))
      clear hb
      go_wp2_with fail
      exact bodyPost_ret (v := .bool true) (by simp [results, Try.results10, go_sem]) rfl ⟨rfl, T.out⟩
end Go.Proofs.Ytbhlddfjfcmncaa
