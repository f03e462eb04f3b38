import Derived.Test.YtbhlddfjfcmncaaYd
import Derived.Test.YtbhlddfjfcmncaaYb
import Derived.Maps.OwnIn
import Derived.Maps.OwnSet
import Derived.RangeFuncNested
import Derived.RangeFuncBound
import Derived.RangeFuncCalls
import Derived.RangeFuncLeaves
import Derived.Shelf.Abstract
import Derived.Shelf.RegionOpen
import Derived.WalkKit
import Derived.OwnWalkIn
import Derived.TacticsInMore
import Derived.LoopNIn
import Derived.LoopIn
import Derived.WalkSpells
import Derived.WalkLawsBesides
import Derived.BigQuiet
import Derived.Deep.QuietTactic
import Derived.Lib.Hide
import Derived.Deep.RegionHeld3
import Derived.StillTailTactics
import Derived.Lib.MakeNoZero
import Derived.Laws.CopyOwn
import Derived.Deep.RegionLaw
import Derived.Deep.LoopGhost
import Derived.Deep.CutBlock
import Derived.Deep.DeepCutAuto
import Derived.Lib.IndexAny
namespace Go.Proofs.Ytbhlddfjfcmncaa
open Go.RowKit Go.Shelf
attribute [local go_sem] Oper.semAt_some
theorem bitsL_marks (s : ByteArray) (k : Nat) : (bitsL s k).all isMark = true := by
  unfold bitsL; rw [List.all_eq_true]; intro x hx
  obtain ⟨c, _, rfl⟩ := List.mem_map.1 hx
  have : c % 2 = 0 ∨ c % 2 = 1 := by
    have h : c.toNat % 2 = 0 ∨ c.toNat % 2 = 1 := by omega
    rcases h with h | h
    · left; apply UInt8.toNat_inj.1; rw [UInt8.toNat_mod]; exact h
    · right; apply UInt8.toNat_inj.1; rw [UInt8.toNat_mod]; exact h
  rcases this with h | h <;> rw [h] <;> rfl
theorem bitsV_size (s : ByteArray) (most : Nat) : (bitsV s most).size = min s.size most := by
  unfold bitsV; rw [toS_size, bitsL_length _ _ (Nat.min_le_left _ _)]
theorem bitsV_all (s : ByteArray) (most : Nat) : (bitsV s most).data.toList.all isMark = true := by
  unfold bitsV; rw [toS_list]; exact bitsL_marks _ _
theorem tame_facts (f r : ByteArray) (most : Nat) (h1 : 1 ≤ most) (h2 : most ≤ 60) :
    tideB (bitsV f most, tameR r most) = true ∧ (bitsV f most).size ≤ most ∧ (tameR r most).size ≤ most := by
  have a1 := bitsV_size f most
  have a2 := bitsV_size r most
  have b : (tameR r most).size ≤ most ∧ ¬ (tameR r most).size = 0 ∧ (tameR r most).data.toList.all isMark = true := by
    unfold tameR
    split
    · exact ⟨h1, by decide, by rfl⟩
    · exact ⟨by omega, by assumption, bitsV_all _ _⟩
  refine ⟨?_, by omega, b.1⟩
  unfold tideB marksB
  have c1 : ((tameR r most).size == 0) = false := beq_eq_false_iff_ne.2 b.2.1
  have c2 : decide ((bitsV f most).size ≤ 60) = true := decide_eq_true (by omega)
  have c3 : decide ((tameR r most).size ≤ 60) = true := decide_eq_true (by omega)
  simp only [bitsV_all, b.2.2, c1, c2, c3]; rfl
theorem nextO_none_all {f r : ByteArray} {h : Nat} (hr : 1 ≤ r.size) (hn : nextO f r h = none) : ∀ i, h ≤ i → hasB f r i = false := by
  intro i hi
  have hno := findFrom_none hn
  by_cases hlt : i < h + (max h f.size + r.size - h)
  · exact hno i hi hlt
  · have hp := hasB_per f r 1
    rw [Nat.one_mul] at hp
    obtain ⟨m, hm⟩ : ∃ m, m = max h f.size := ⟨_, rfl⟩
    have e : i = (m + (i - m) % r.size) + (i - m) / r.size * r.size := by have := Nat.div_add_mod (i - m) r.size; rw [Nat.mul_comm] at this; omega
    have lt : (i - m) % r.size < r.size := Nat.mod_lt _ hr
    have := hp.mul ((i - m) / r.size) (m + (i - m) % r.size) (by omega)
    rw [← e] at this
    rw [this]; exact hno _ (by omega) (by omega)
theorem findFrom_eq_some {p : Nat → Bool} {h k : Nat} (hk : h ≤ k) (hp : p k = true) (hno : ∀ i, h ≤ i → i < k → p i = false) : ∀ n, k < h + n → findFrom p n h = some k := by
  intro n hn
  cases hf : findFrom p n h with
  | none => have := findFrom_none hf k hk hn; rw [hp] at this; cases this
  | some j =>
    obtain ⟨j1, j2⟩ := findFrom_some hf
    have j3 := (findFrom_ge hf).1
    by_cases h1 : j < k
    · have := hno j j3 h1; rw [j1] at this; cases this
    · by_cases h2 : k < j
      · have := j2 k hk h2; rw [hp] at this; cases this
      · rw [show j = k by omega]
theorem rwait_some {f r : ByteArray} {h k : Nat} (hn : nextO f r h = some k) : rwait f r h = ((k - h : Nat) : Int) := by
  obtain ⟨a, b⟩ := findFrom_some hn
  obtain ⟨c, d⟩ := findFrom_ge hn
  unfold rwait
  rw [findFrom_eq_some c a b _ (by omega)]
theorem rwait_none {f r : ByteArray} {h : Nat} (hr : 1 ≤ r.size) (hn : nextO f r h = none) : rwait f r h = -1 := by
  unfold rwait
  cases hf : findFrom (hasB f r) (f.size + r.size) h with
  | none => rfl
  | some j =>
    have := nextO_none_all hr hn j (findFrom_ge hf).1
    rw [(findFrom_some hf).1] at this; cases this
set_option maxRecDepth 100000 in
set_option maxHeartbeats 4000000 in
theorem TideHas_any (f r : ByteArray) (a0 : Int) (w : World) (hf : f.size ≤ 9223372036854775807) (hr : r.size ≤ 9223372036854775807) :
    Calls Try.prog 4 #[.agg #[.string f, .string r], .int .i64 a0] w fun e w' => e = .returned (.bool true) ∧ Below w.heap.size w w' := by
  have HT : Hid (∀ W, Calls Try.prog 37 #[.agg #[.string f, .string r], .int .i64 60] W fun e w' => e = .returned (.agg #[.string (bitsV f 60), .string (tameR r 60)]) ∧ Below W.heap.size W w') := Lib.hid (fun W => tame_any f r 60 W hf hr (by omega))
  obtain ⟨ht, y1, y2⟩ := tame_facts f r 60 (by omega) (by omega)
  obtain ⟨_, _, y3⟩ := tideB_size ht
  generalize bitsV f 60 = F at *
  generalize tameR r 60 = R at *
  have m1 : F.size ≤ 9223372036854775807 := by omega
  have m2 : R.size ≤ 9223372036854775807 := by omega
  have HTT := Lib.hid ht
  clear ht
  go_enter Try.func4, Try.ntmps4
  go_wp2_with fail
  refine (HT.out _).mono ?_
  rintro e v1 ⟨rfl, hb⟩
  have T := Lib.hid (Below.al (Below.trans (Below.al (Below.refl w.heap.size w) (Nat.le_refl _) (Obj.cells #[.string f, .string r] 23)) (hb.mono (by rw [size_al]; omega))) (Nat.le_refl _) (Obj.cells #[.string F, .string R] 24))
  have C := Lib.hid (Two.new v1 F R 24)
  clear hb
  go_wp2_with fail
  generalize v1.alloc (Obj.cells #[.string F, .string R] 24) = V1 at *
  generalize v1.heap.size = b1 at *
  refine (given_any F R _).mono ?_
  rintro e v2 ⟨rfl, hb⟩
  replace T := Lib.hid (Below.al (Below.andThen T.out hb (Nat.le_refl _)) (Nat.le_refl _) (Obj.cells #[.string F, .string R] 23))
  replace C := Lib.hid ((C.out.below hb).alloc (Obj.cells #[.string F, .string R] 23))
  have D := Lib.hid (Two.new v2 F R 23)
  clear hb
  go_wp2_with fail
  generalize v2.alloc (Obj.cells #[.string F, .string R] 23) = V2 at *
  generalize v2.heap.size = b2 at *
  go_loopw [1, 7, 8, 9, 10, 11, 12, 13, 14] (fun x i _ _ _ _ _ _ _ wr => ∃ (k : Nat) (a : Int), k ≤ 3 ∧ x = .int .i64 a ∧ i = .int .i64 k ∧ Hid (Below w.heap.size w wr) ∧ Hid (Two wr b1 F R) ∧ Hid (Two wr b2 F R)) (fun _ i _ _ _ _ _ _ _ _ => 3 - (intOf i).toNat)
  case atStart => exact ⟨0, a0, by omega, rfl, rfl, T, C, D⟩
  case round =>
    clear T C D
    obtain ⟨k, a, hk, rfl, rfl, T, C, D⟩ := hrel
    by_cases hlt : k < 3
    · have d0 := D.out.2.1
      have d1 := D.out.2.2
      by_cases ha : 0 ≤ a ∧ a ≤ 1000000000
      · obtain ⟨n, hn⟩ : ∃ n : Nat, a = n := ⟨a.toNat, by omega⟩
        subst hn
        have hn9 : n ≤ 1000000000 := by omega
        clear ha
        obtain ⟨n', hn1, hn2⟩ := hourV_nat n
        have HN := Lib.hid hn2
        clear hn2
        have d0 := D.out.2.1
        have d1 := D.out.2.2
        go_wp2_with fail
        refine (Has_ok F R n _ HTT.out hn9).mono ?_
        rintro e w1 ⟨rfl, hb⟩
        clear d0 d1
        replace T := Lib.hid (Below.andThen T.out hb (Nat.le_refl _))
        replace D := Lib.hid (D.out.below hb)
        replace C := Lib.hid (C.out.below hb)
        clear hb
        have d0 := D.out.2.1
        have d1 := D.out.2.2
        go_wp2_with fail
        refine (Wait_ok F R n _ HTT.out hn9).mono ?_
        rintro e w2 ⟨rfl, hb⟩
        clear d0 d1
        replace T := Lib.hid (Below.andThen T.out hb (Nat.le_refl _))
        replace D := Lib.hid (D.out.below hb)
        replace C := Lib.hid (C.out.below hb)
        clear hb
        cases ho : nextO F R n with
        | none =>
          have RW := Lib.hid (rwait_none y3 ho)
          clear ho
          dsimp only [waitV]
          have d0 := D.out.2.1
          have d1 := D.out.2.2
          go_wp2_with fail
          refine (Count_ok F R n _ HTT.out hn9).mono ?_
          rintro e w3 ⟨rfl, hb⟩
          clear d0 d1
          replace T := Lib.hid (Below.andThen T.out hb (Nat.le_refl _))
          replace D := Lib.hid (D.out.below hb)
          replace C := Lib.hid (C.out.below hb)
          clear hb
          have c0 := C.out.2.1
          have c1 := C.out.2.2
          go_wp2_with fail
          refine (refWait_any F R n _ y1 y2 y3 hn9).mono ?_
          rintro e w4 ⟨rfl, hb⟩
          clear c0 c1
          replace T := Lib.hid (Below.andThen T.out hb (Nat.le_refl _))
          replace D := Lib.hid (D.out.below hb)
          replace C := Lib.hid (C.out.below hb)
          clear hb
          rw [RW.out]
          have c0 := C.out.2.1
          have c1 := C.out.2.2
          go_wp2_with fail
          refine (refHas_any F R n _ y3 (by omega)).mono ?_
          rintro e w5 ⟨rfl, hb⟩
          clear c0 c1
          replace T := Lib.hid (Below.andThen T.out hb (Nat.le_refl _))
          replace D := Lib.hid (D.out.below hb)
          replace C := Lib.hid (C.out.below hb)
          clear hb
          have c0 := C.out.2.1
          have c1 := C.out.2.2
          go_wp2_with fail
          refine (refCount_any F R n _ y1 y2 y3 hn9).mono ?_
          rintro e w6 ⟨rfl, hb⟩
          clear c0 c1
          replace T := Lib.hid (Below.andThen T.out hb (Nat.le_refl _))
          replace D := Lib.hid (D.out.below hb)
          replace C := Lib.hid (C.out.below hb)
          clear hb
          go_wp2_with fail
          refine (hour_any _ _).mono ?_
          rintro e w9 ⟨rfl, rfl⟩
          rw [HN.out]
          by_cases hk1 : k = 1
          · go_wp2_with fail
            go_roundw
            case rel => exact ⟨2, _, by omega, rfl, rfl, T, C, D⟩
            case measure => simp [intOf]; omega
          · have hk2 : ((k : Int) == 1) = false := beq_eq_false_iff_ne.2 (by omega)
            go_wp2_with fail
            go_roundw
            case rel => exact ⟨k + 1, _, by omega, rfl, rfl, T, C, D⟩
            case measure => simp [intOf]; omega
        | some j =>
          have RW := Lib.hid (rwait_some ho)
          have hj := findFrom_ge ho
          have hj1 : n ≤ j := hj.1
          clear ho hj
          dsimp only [waitV]
          generalize j - n = jn at *
          have d0 := D.out.2.1
          have d1 := D.out.2.2
          go_wp2_with fail
          refine (Count_ok F R n _ HTT.out hn9).mono ?_
          rintro e w3 ⟨rfl, hb⟩
          clear d0 d1
          replace T := Lib.hid (Below.andThen T.out hb (Nat.le_refl _))
          replace D := Lib.hid (D.out.below hb)
          replace C := Lib.hid (C.out.below hb)
          clear hb
          have c0 := C.out.2.1
          have c1 := C.out.2.2
          go_wp2_with fail
          refine (refWait_any F R n _ y1 y2 y3 hn9).mono ?_
          rintro e w4 ⟨rfl, hb⟩
          clear c0 c1
          replace T := Lib.hid (Below.andThen T.out hb (Nat.le_refl _))
          replace D := Lib.hid (D.out.below hb)
          replace C := Lib.hid (C.out.below hb)
          clear hb
          rw [RW.out]
          have c0 := C.out.2.1
          have c1 := C.out.2.2
          go_wp2_with fail
          refine (refHas_any F R n _ y3 (by omega)).mono ?_
          rintro e w5 ⟨rfl, hb⟩
          clear c0 c1
          replace T := Lib.hid (Below.andThen T.out hb (Nat.le_refl _))
          replace D := Lib.hid (D.out.below hb)
          replace C := Lib.hid (C.out.below hb)
          clear hb
          have c0 := C.out.2.1
          have c1 := C.out.2.2
          go_wp2_with fail
          refine (refCount_any F R n _ y1 y2 y3 hn9).mono ?_
          rintro e w6 ⟨rfl, hb⟩
          clear c0 c1
          replace T := Lib.hid (Below.andThen T.out hb (Nat.le_refl _))
          replace D := Lib.hid (D.out.below hb)
          replace C := Lib.hid (C.out.below hb)
          clear hb
          go_wp2_with fail
          refine (hour_any _ _).mono ?_
          rintro e w9 ⟨rfl, rfl⟩
          rw [HN.out]
          by_cases hk1 : k = 1
          · go_wp2_with fail
            go_roundw
            case rel => exact ⟨2, _, by omega, rfl, rfl, T, C, D⟩
            case measure => simp [intOf]; omega
          · have hk2 : ((k : Int) == 1) = false := beq_eq_false_iff_ne.2 (by omega)
            go_wp2_with fail
            go_roundw
            case rel => exact ⟨k + 1, _, by omega, rfl, rfl, T, C, D⟩
            case measure => simp [intOf]; omega
      · have hc : (a < 0) ∨ (¬ a < 0 ∧ 1000000000 < a) := by omega
        obtain ⟨n', hn1, hn2⟩ := hourV_nat a
        have HN := Lib.hid hn2
        clear hn2
        have d0 := D.out.2.1
        have d1 := D.out.2.2
        go_wp2_with fail
        refine (Has_err F R a 1 _ m1 m2 (checkAtE_arg HTT.out ha) rfl).mono ?_
        rintro e w1 ⟨rfl, hb⟩
        clear d0 d1
        replace T := Lib.hid (Below.andThen T.out hb (Nat.le_refl _))
        replace D := Lib.hid (D.out.below hb)
        replace C := Lib.hid (C.out.below hb)
        clear hb
        have d0 := D.out.2.1
        have d1 := D.out.2.2
        go_wp2_with fail
        refine (Wait_err F R a 1 _ m1 m2 (checkAtE_arg HTT.out ha) rfl).mono ?_
        rintro e w2 ⟨rfl, hb⟩
        clear d0 d1
        replace T := Lib.hid (Below.andThen T.out hb (Nat.le_refl _))
        replace D := Lib.hid (D.out.below hb)
        replace C := Lib.hid (C.out.below hb)
        clear hb
        have d0 := D.out.2.1
        have d1 := D.out.2.2
        go_wp2_with fail
        refine (Count_err F R a 1 _ m1 m2 (checkAtE_arg HTT.out ha) rfl).mono ?_
        rintro e w3 ⟨rfl, hb⟩
        clear d0 d1
        replace T := Lib.hid (Below.andThen T.out hb (Nat.le_refl _))
        replace D := Lib.hid (D.out.below hb)
        replace C := Lib.hid (C.out.below hb)
        clear hb
        clear ha
        rcases hc with hc | ⟨hc1, hc2⟩
        · go_wp2_with fail
          refine (hour_any _ _).mono ?_
          rintro e w9 ⟨rfl, rfl⟩
          rw [HN.out]
          by_cases hk1 : k = 1
          · go_wp2_with fail
            go_roundw
            case rel => exact ⟨2, _, by omega, rfl, rfl, T, C, D⟩
            case measure => simp [intOf]; omega
          · have hk2 : ((k : Int) == 1) = false := beq_eq_false_iff_ne.2 (by omega)
            go_wp2_with fail
            go_roundw
            case rel => exact ⟨k + 1, _, by omega, rfl, rfl, T, C, D⟩
            case measure => simp [intOf]; omega
        · go_wp2_with fail
          refine (hour_any _ _).mono ?_
          rintro e w9 ⟨rfl, rfl⟩
          rw [HN.out]
          by_cases hk1 : k = 1
          · go_wp2_with fail
            go_roundw
            case rel => exact ⟨2, _, by omega, rfl, rfl, T, C, D⟩
            case measure => simp [intOf]; omega
          · have hk2 : ((k : Int) == 1) = false := beq_eq_false_iff_ne.2 (by omega)
            go_wp2_with fail
            go_roundw
            case rel => exact ⟨k + 1, _, by omega, rfl, rfl, T, C, D⟩
            case measure => simp [intOf]; omega
    · go_wp2_with fail
      refine (awake_any _).mono ?_
      rintro e vz ⟨rfl, hb⟩
      replace T := Lib.hid (Below.andThen T.out hb (Nat.le_refl _))
      clear hb
      go_wp2_with fail
      exact bodyPost_ret (v := .bool true) (by simp [results, Try.results4, go_sem]) rfl ⟨rfl, T.out⟩
end Go.Proofs.Ytbhlddfjfcmncaa
