import Derived.Test.YtbhlddfjfcmncaaZi
import Derived.Test.YtbhlddfjfcmncaaZe
import Derived.Test.YtbhlddfjfcmncaaYn
import Derived.Test.YtbhlddfjfcmncaaYu
import Derived.Maps.OwnIn
import Derived.Maps.OwnSet
import Derived.RangeFuncNested
import Derived.RangeFuncBound
import Derived.RangeFuncCalls
import Derived.RangeFuncLeaves
import Derived.Shelf.Abstract
import Derived.Shelf.RegionOpen
import Derived.WalkKit
import Derived.OwnWalkIn
import Derived.TacticsInMore
import Derived.LoopNIn
import Derived.LoopIn
import Derived.WalkSpells
import Derived.WalkLawsBesides
import Derived.BigQuiet
import Derived.Deep.QuietTactic
import Derived.Lib.Hide
import Derived.Deep.RegionHeld3
import Derived.StillTailTactics
import Derived.Lib.MakeNoZero
import Derived.Laws.CopyOwn
import Derived.Deep.RegionLaw
import Derived.Deep.LoopGhost
import Derived.Deep.CutBlock
import Derived.Deep.DeepCutAuto
import Derived.Lib.IndexAny
namespace Go.Proofs.Ytbhlddfjfcmncaa
open Go.RowKit Go.Shelf
attribute [local go_sem] Oper.semAt_some
theorem nth_prog (f r : ByteArray) (n : Nat) (ht : tideB (f, r) = true) (hn : n ≤ 1000000) :
    (∃ k : Nat, k ≤ 100000000 ∧ IsNth (hasB f r) 0 n k ∧ (∀ W, Calls Try.prog 32 #[.agg #[.string f, .string r], .int .i64 n] W fun e w' => e = .returned (.tuple #[.int .i64 k, .int .i64 0]) ∧ Below W.heap.size W w')) ∨
    (ones r.data.toList = 0 ∧ ones f.data.toList ≤ n ∧ (∀ W, Calls Try.prog 32 #[.agg #[.string f, .string r], .int .i64 n] W fun e w' => e = .returned (.tuple #[.int .i64 0, .int .i64 4]) ∧ Below W.heap.size W w')) := by
  obtain ⟨z1, z2, z3⟩ := tideB_size ht
  by_cases hA : n < ones f.data.toList
  · obtain ⟨k, h1, h2⟩ := nth_early f r n hA
    exact .inl ⟨k, by omega, h1, fun W => Nth_early f r n k W ht hA h1 (by omega)⟩
  · by_cases hB : ones r.data.toList = 0
    · exact .inr ⟨hB, by omega, fun W => Nth_none f r n W ht hA hn hB⟩
    · obtain ⟨k, h1, h2, h3⟩ := nth_late f r n hA (by omega)
      have u1 : (n - ones f.data.toList) / ones r.data.toList ≤ 1000000 := Nat.le_trans (Nat.div_le_self _ _) (by omega)
      have u2 : (n - ones f.data.toList) / ones r.data.toList * r.size ≤ 1000000 * 60 := Nat.mul_le_mul u1 z2
      exact .inl ⟨k, by omega, h2, fun W => Nth_late f r n k W ht hA hn (by omega) h1 (by omega)⟩
theorem ones_take_le (l : List UInt8) (m : Nat) : ones (l.take m) ≤ ones l := by
  unfold ones
  exact ((List.take_sublist m l).filter _).length_le
theorem count_far {f r : ByteArray} {n : Nat} (hf : f.size ≤ 60) (h1 : ones r.data.toList = 0) (h2 : ones f.data.toList ≤ n) : countN f r 5000 ≤ n := by
  unfold countN
  rw [if_neg (by omega), h1]
  have := ones_take_le r.data.toList ((5000 - f.size) % r.size)
  omega
theorem next_here {f r : ByteArray} {a : Nat} (hr : 1 ≤ r.size) (h : hasB f r a = true) : nextO f r a = some a :=
  findFrom_eq_some (Nat.le_refl _) h (fun i h1 h2 => by omega) _ (by omega)
theorem next_skip {f r : ByteArray} {a : Nat} (hr : 1 ≤ r.size) (h : hasB f r a = false) : nextO f r (a + 1) = nextO f r a ∧ ∀ j, nextO f r a = some j → a + 1 ≤ j := by
  have hlt : ∀ j, nextO f r a = some j → a + 1 ≤ j := fun j hj => by
    have h1 := (findFrom_ge hj).1
    have h2 := (findFrom_some hj).1
    rcases Nat.eq_or_lt_of_le h1 with h3 | h3
    · subst h3; rw [h] at h2; cases h2
    · exact h3
  refine ⟨?_, hlt⟩
  cases ho : nextO f r a with
  | some j =>
    have h1 := hlt j ho
    have h2 := (findFrom_ge ho).2
    have h3 := findFrom_some ho
    exact findFrom_eq_some h1 h3.1 (fun i h4 h5 => h3.2 i (by omega) h5) _ (by omega)
  | none =>
    cases ho2 : nextO f r (a + 1) with
    | none => rfl
    | some j =>
      have h2 := (findFrom_some ho2).1
      have h3 := (findFrom_ge ho2).1
      rw [nextO_none_all hr ho j (by omega)] at h2; cases h2
theorem later_small {f r : ByteArray} (n : Nat) (ht : tideB (f, r) = true) (hf : f.size ≤ 30) (hn : n ≤ 20) :
    ∃ p q : ByteArray, tideB (p, q) = true ∧ (∀ i, hasB p q (i + n) = hasB f r i) ∧ ∀ W, Calls Try.prog 28 #[.agg #[.string f, .string r], .int .i64 n] W fun e w' => e = .returned (.tuple #[.agg #[.string p, .string q], .int .i64 0]) ∧ Below W.heap.size W w' := by
  obtain ⟨z1, z2, z3⟩ := tideB_size ht
  obtain ⟨K, D, hF, h1, _⟩ := later_made ht n (by omega)
  have hp : Per (laterY (hasB f r) n) (n + f.size) r.size := laterY_per (by have := hasB_per f r 1; rwa [Nat.one_mul] at this) n
  have hK := hF.le_first hp z3
  have hD := Nat.le_of_dvd z3 (hF.dvd hp z3)
  have hO := FormOf.mk' hF (by omega) (by omega)
  refine ⟨_, _, hO.tide, fun i => ?_, fun W => ?_⟩
  · rw [hO.has]; unfold laterY; rw [if_neg (by omega), Nat.add_sub_cancel]
  · have := Later_ok f r n W ht (by omega)
    rw [show laterV f r n = .tuple #[.agg #[.string (toS (rowF (laterY (hasB f r) n) K)), .string (toS (rowR (laterY (hasB f r) n) K D))], .int .i64 0] from by
      unfold laterV; rw [h1]; unfold rowV; rw [if_pos ⟨by omega, by omega⟩]] at this
    exact this
set_option maxRecDepth 100000 in
set_option maxHeartbeats 8000000 in
theorem TideCounts_any (f r : ByteArray) (n0 a0 : Int) (w : World) (hf : f.size ≤ 9223372036854775807) (hr : r.size ≤ 9223372036854775807) :
    Calls Try.prog 15 #[.agg #[.string f, .string r], .int .i64 n0, .int .i64 a0] w fun e w' => e = .returned (.bool true) ∧ Below w.heap.size w w' := by
  have HT : Hid (∀ W, Calls Try.prog 37 #[.agg #[.string f, .string r], .int .i64 30] W fun e w' => e = .returned (.agg #[.string (bitsV f 30), .string (tameR r 30)]) ∧ Below W.heap.size W w') := Lib.hid (fun W => tame_any f r 30 W hf hr (by omega))
  obtain ⟨ht, y1, y2⟩ := tame_facts f r 30 (by omega) (by omega)
  obtain ⟨_, _, y3⟩ := tideB_size ht
  generalize bitsV f 30 = F at *
  generalize tameR r 30 = R at *
  have HTT := Lib.hid ht
  clear ht
  obtain ⟨a1, ha1, ha2⟩ := hourV_nat a0
  have HA := Lib.hid ha2
  have wn : wrap64 ((IntKind.u64.wrap n0).tmod 2000) = (restV n0 2000 : Int) := restV_wrap n0 2000 (by omega) (by omega)
  have ln := restV_lt n0 2000 (by omega)
  have HN := Lib.hid wn
  have wa : (a1 : Int) % 2000 = ((a1 % 2000 : Nat) : Int) := by omega
  have la : a1 % 2000 < 2000 := Nat.mod_lt _ (by omega)
  have HM := Lib.hid wa
  clear ha2 wn wa
  generalize restV n0 2000 = n at *
  generalize a1 % 2000 = a at *
  go_enter Try.func15, Try.ntmps15
  go_wp2_with fail
  refine (HT.out _).mono ?_
  rintro e v1 ⟨rfl, hb⟩
  have T := Lib.hid (Below.trans (Below.al (Below.refl w.heap.size w) (Nat.le_refl _) (Obj.cells #[.string f, .string r] 23)) (hb.mono (by rw [size_al]; omega)))
  clear hb
  go_wp2_with fail
  refine (given_any F R _).mono ?_
  rintro e v2 ⟨rfl, hb⟩
  replace T := Lib.hid (Below.al (Below.andThen T.out hb (Nat.le_refl _)) (Nat.le_refl _) (Obj.cells #[.string F, .string R] 23))
  have C := Lib.hid (Two.new v2 F R 23)
  clear hb
  go_wp2_with fail
  generalize v2.alloc (Obj.cells #[.string F, .string R] 23) = V1 at *
  generalize v2.heap.size = b1 at *
  refine (hour_any _ _).mono ?_
  rintro e w9 ⟨rfl, rfl⟩
  rw [HA.out]
  rw [HN.out]
  have hn9 : n ≤ 1000000 := by omega
  rcases nth_prog F R n HTT.out hn9 with ⟨k, hk, hk2, CN⟩ | ⟨hz1, hz2, CN⟩
  · have HN2 := Lib.hid CN
    have e1 := Lib.hid ((countN_cnt F R y3 k).trans hk2.2.2)
    have e2 : Hid (hasB F R k = true) := Lib.hid hk2.2.1
    have e3 : Hid (countN F R (k + 1) = n + 1) := Lib.hid (by rw [countN_cnt F R y3, cnt_succ_of (by rw [Nat.zero_add]; exact hk2.2.1)]; have := hk2.2.2; rw [Nat.sub_zero] at this; rw [this])
    have E0 : Hid ((k : Int) + 1 = ((k + 1 : Nat) : Int)) := Lib.hid (by omega)
    have b1' : (((n + 1 : Nat) : Int) != (n : Int) + 1) = false := by rw [show (n : Int) + 1 = ((n + 1 : Nat) : Int) by omega, nat_neq]; simp
    clear CN hk2
    have d00 := C.out.2.1
    have d01 := C.out.2.2
    go_wp2_with fail
    rw [HM.out]
    refine (HN2.out _).mono ?_
    rintro e w3 ⟨rfl, hb⟩
    clear d00 d01
    replace T := Lib.hid (Below.andThen T.out hb (Nat.le_refl _))
    replace C := Lib.hid (C.out.below hb)
    clear hb
    have d00 := C.out.2.1
    have d01 := C.out.2.2
    go_wp2_with fail
    refine (Count_ok F R k _ HTT.out (by omega)).mono ?_
    rintro e w4 ⟨rfl, hb⟩
    clear d00 d01
    replace T := Lib.hid (Below.andThen T.out hb (Nat.le_refl _))
    replace C := Lib.hid (C.out.below hb)
    clear hb
    rw [e1.out]
    have d00 := C.out.2.1
    have d01 := C.out.2.2
    go_wp2_with fail
    refine (Has_ok F R k _ HTT.out (by omega)).mono ?_
    rintro e w5 ⟨rfl, hb⟩
    clear d00 d01
    replace T := Lib.hid (Below.andThen T.out hb (Nat.le_refl _))
    replace C := Lib.hid (C.out.below hb)
    clear hb
    rw [e2.out]
    have d00 := C.out.2.1
    have d01 := C.out.2.2
    go_wp2_with fail
    rw [E0.out]
    refine (Count_ok F R (k + 1) _ HTT.out (by omega)).mono ?_
    rintro e w6 ⟨rfl, hb⟩
    clear d00 d01
    replace T := Lib.hid (Below.andThen T.out hb (Nat.le_refl _))
    replace C := Lib.hid (C.out.below hb)
    clear hb
    rw [e3.out]
    cases hX : hasB F R a with
    | true =>
      have HX := Lib.hid hX
      have HW := Lib.hid (next_here y3 hX)
      clear hX
      cases ho : nextO F R (a + 1) with
      | none =>
        have HV := Lib.hid ho
        clear ho
        have d00 := C.out.2.1
        have d01 := C.out.2.2
        go_wp2_with fail
        refine (Has_ok F R a _ HTT.out (by omega)).mono ?_
        rintro e w1 ⟨rfl, hb⟩
        clear d00 d01
        replace T := Lib.hid (Below.andThen T.out hb (Nat.le_refl _))
        replace C := Lib.hid (C.out.below hb)
        clear hb
        rw [HX.out]
        have d00 := C.out.2.1
        have d01 := C.out.2.2
        go_wp2_with fail
        refine (Wait_ok F R a _ HTT.out (by omega)).mono ?_
        rintro e w2 ⟨rfl, hb⟩
        clear d00 d01
        replace T := Lib.hid (Below.andThen T.out hb (Nat.le_refl _))
        replace C := Lib.hid (C.out.below hb)
        clear hb
        rw [HW.out]
        dsimp only [waitV]
        rw [Nat.sub_self]
        have E1 : Hid ((a : Int) + 1 = ((a + 1 : Nat) : Int)) := Lib.hid (by omega)
        have d00 := C.out.2.1
        have d01 := C.out.2.2
        go_wp2_with fail
        rw [E1.out]
        refine (Wait_ok F R (a + 1) _ HTT.out (by omega)).mono ?_
        rintro e w3 ⟨rfl, hb⟩
        clear d00 d01
        replace T := Lib.hid (Below.andThen T.out hb (Nat.le_refl _))
        replace C := Lib.hid (C.out.below hb)
        clear hb
        rw [HV.out]
        dsimp only [waitV]
        have eb : (n : Int) % 20 = ((n % 20 : Nat) : Int) := by omega
        have lb : n % 20 < 20 := Nat.mod_lt _ (by omega)
        have EB := Lib.hid eb
        clear eb
        obtain ⟨p, q, x1, x2, x3⟩ := later_small (n % 20) HTT.out y1 (by omega)
        have HPQ := Lib.hid x1
        have HH := Lib.hid (x2 a)
        have HL := Lib.hid x3
        clear x1 x2 x3
        generalize n % 20 = u at *
        have d00 := C.out.2.1
        have d01 := C.out.2.2
        go_wp2_with fail
        rw [EB.out]
        refine (HL.out _).mono ?_
        rintro e w4 ⟨rfl, hb⟩
        clear d00 d01
        replace T := Lib.hid (Below.al (Below.andThen T.out hb (Nat.le_refl _)) (Nat.le_refl _) (Obj.cells #[.string p, .string q] 23))
        have D := Lib.hid (Two.new w4 p q 23)
        clear hb
        have E3 : Hid ((a : Int) + (u : Int) = ((a + u : Nat) : Int)) := Lib.hid (by omega)
        go_wp2_with fail
        rw [E3.out]
        refine (Has_ok p q (a + u) _ HPQ.out (by omega)).mono ?_
        rintro e w5 ⟨rfl, hb⟩
        replace T := Lib.hid (Below.andThen T.out hb (Nat.le_refl _))
        clear hb
        rw [HH.out, HX.out]
        go_wp2_with fail
        refine (awake_any _).mono ?_
        rintro e vz ⟨rfl, hb⟩
        replace T := Lib.hid (Below.andThen T.out hb (Nat.le_refl _))
        clear hb
        go_wp2_with fail
        exact bodyPost_ret (v := .bool true) (by simp [results, Try.results15, go_sem]) rfl ⟨rfl, T.out⟩
      | some j =>
        have HV := Lib.hid ho
        have hj := (findFrom_ge ho).1
        have hj2 : j ≤ 100000000 := by have := (findFrom_ge ho).2; omega
        clear ho
        have d00 := C.out.2.1
        have d01 := C.out.2.2
        go_wp2_with fail
        refine (Has_ok F R a _ HTT.out (by omega)).mono ?_
        rintro e w1 ⟨rfl, hb⟩
        clear d00 d01
        replace T := Lib.hid (Below.andThen T.out hb (Nat.le_refl _))
        replace C := Lib.hid (C.out.below hb)
        clear hb
        rw [HX.out]
        have d00 := C.out.2.1
        have d01 := C.out.2.2
        go_wp2_with fail
        refine (Wait_ok F R a _ HTT.out (by omega)).mono ?_
        rintro e w2 ⟨rfl, hb⟩
        clear d00 d01
        replace T := Lib.hid (Below.andThen T.out hb (Nat.le_refl _))
        replace C := Lib.hid (C.out.below hb)
        clear hb
        rw [HW.out]
        dsimp only [waitV]
        rw [Nat.sub_self]
        have E1 : Hid ((a : Int) + 1 = ((a + 1 : Nat) : Int)) := Lib.hid (by omega)
        have d00 := C.out.2.1
        have d01 := C.out.2.2
        go_wp2_with fail
        rw [E1.out]
        refine (Wait_ok F R (a + 1) _ HTT.out (by omega)).mono ?_
        rintro e w3 ⟨rfl, hb⟩
        clear d00 d01
        replace T := Lib.hid (Below.andThen T.out hb (Nat.le_refl _))
        replace C := Lib.hid (C.out.below hb)
        clear hb
        rw [HV.out]
        dsimp only [waitV]
        generalize j - (a + 1) = jn at *
        have eb : (n : Int) % 20 = ((n % 20 : Nat) : Int) := by omega
        have lb : n % 20 < 20 := Nat.mod_lt _ (by omega)
        have EB := Lib.hid eb
        clear eb
        obtain ⟨p, q, x1, x2, x3⟩ := later_small (n % 20) HTT.out y1 (by omega)
        have HPQ := Lib.hid x1
        have HH := Lib.hid (x2 a)
        have HL := Lib.hid x3
        clear x1 x2 x3
        generalize n % 20 = u at *
        have d00 := C.out.2.1
        have d01 := C.out.2.2
        go_wp2_with fail
        rw [EB.out]
        refine (HL.out _).mono ?_
        rintro e w4 ⟨rfl, hb⟩
        clear d00 d01
        replace T := Lib.hid (Below.al (Below.andThen T.out hb (Nat.le_refl _)) (Nat.le_refl _) (Obj.cells #[.string p, .string q] 23))
        have D := Lib.hid (Two.new w4 p q 23)
        clear hb
        have E3 : Hid ((a : Int) + (u : Int) = ((a + u : Nat) : Int)) := Lib.hid (by omega)
        go_wp2_with fail
        rw [E3.out]
        refine (Has_ok p q (a + u) _ HPQ.out (by omega)).mono ?_
        rintro e w5 ⟨rfl, hb⟩
        replace T := Lib.hid (Below.andThen T.out hb (Nat.le_refl _))
        clear hb
        rw [HH.out, HX.out]
        go_wp2_with fail
        refine (awake_any _).mono ?_
        rintro e vz ⟨rfl, hb⟩
        replace T := Lib.hid (Below.andThen T.out hb (Nat.le_refl _))
        clear hb
        go_wp2_with fail
        exact bodyPost_ret (v := .bool true) (by simp [results, Try.results15, go_sem]) rfl ⟨rfl, T.out⟩
    | false =>
      have HX := Lib.hid hX
      have hsk := next_skip y3 hX
      clear hX
      cases ho : nextO F R a with
      | none =>
        have HV := Lib.hid (hsk.1.trans ho)
        have HW := Lib.hid ho
        clear ho hsk
        have d00 := C.out.2.1
        have d01 := C.out.2.2
        go_wp2_with fail
        refine (Has_ok F R a _ HTT.out (by omega)).mono ?_
        rintro e w1 ⟨rfl, hb⟩
        clear d00 d01
        replace T := Lib.hid (Below.andThen T.out hb (Nat.le_refl _))
        replace C := Lib.hid (C.out.below hb)
        clear hb
        rw [HX.out]
        have d00 := C.out.2.1
        have d01 := C.out.2.2
        go_wp2_with fail
        refine (Wait_ok F R a _ HTT.out (by omega)).mono ?_
        rintro e w2 ⟨rfl, hb⟩
        clear d00 d01
        replace T := Lib.hid (Below.andThen T.out hb (Nat.le_refl _))
        replace C := Lib.hid (C.out.below hb)
        clear hb
        rw [HW.out]
        dsimp only [waitV]
        have E1 : Hid ((a : Int) + 1 = ((a + 1 : Nat) : Int)) := Lib.hid (by omega)
        have d00 := C.out.2.1
        have d01 := C.out.2.2
        go_wp2_with fail
        rw [E1.out]
        refine (Wait_ok F R (a + 1) _ HTT.out (by omega)).mono ?_
        rintro e w3 ⟨rfl, hb⟩
        clear d00 d01
        replace T := Lib.hid (Below.andThen T.out hb (Nat.le_refl _))
        replace C := Lib.hid (C.out.below hb)
        clear hb
        rw [HV.out]
        dsimp only [waitV]
        have eb : (n : Int) % 20 = ((n % 20 : Nat) : Int) := by omega
        have lb : n % 20 < 20 := Nat.mod_lt _ (by omega)
        have EB := Lib.hid eb
        clear eb
        obtain ⟨p, q, x1, x2, x3⟩ := later_small (n % 20) HTT.out y1 (by omega)
        have HPQ := Lib.hid x1
        have HH := Lib.hid (x2 a)
        have HL := Lib.hid x3
        clear x1 x2 x3
        generalize n % 20 = u at *
        have d00 := C.out.2.1
        have d01 := C.out.2.2
        go_wp2_with fail
        rw [EB.out]
        refine (HL.out _).mono ?_
        rintro e w4 ⟨rfl, hb⟩
        clear d00 d01
        replace T := Lib.hid (Below.al (Below.andThen T.out hb (Nat.le_refl _)) (Nat.le_refl _) (Obj.cells #[.string p, .string q] 23))
        have D := Lib.hid (Two.new w4 p q 23)
        clear hb
        have E3 : Hid ((a : Int) + (u : Int) = ((a + u : Nat) : Int)) := Lib.hid (by omega)
        go_wp2_with fail
        rw [E3.out]
        refine (Has_ok p q (a + u) _ HPQ.out (by omega)).mono ?_
        rintro e w5 ⟨rfl, hb⟩
        replace T := Lib.hid (Below.andThen T.out hb (Nat.le_refl _))
        clear hb
        rw [HH.out, HX.out]
        go_wp2_with fail
        refine (awake_any _).mono ?_
        rintro e vz ⟨rfl, hb⟩
        replace T := Lib.hid (Below.andThen T.out hb (Nat.le_refl _))
        clear hb
        go_wp2_with fail
        exact bodyPost_ret (v := .bool true) (by simp [results, Try.results15, go_sem]) rfl ⟨rfl, T.out⟩
      | some j =>
        have HV := Lib.hid (hsk.1.trans ho)
        have HW := Lib.hid ho
        have hj := hsk.2 j ho
        have hj2 : j ≤ 100000000 := by have := (findFrom_ge ho).2; omega
        clear ho hsk
        have d00 := C.out.2.1
        have d01 := C.out.2.2
        go_wp2_with fail
        refine (Has_ok F R a _ HTT.out (by omega)).mono ?_
        rintro e w1 ⟨rfl, hb⟩
        clear d00 d01
        replace T := Lib.hid (Below.andThen T.out hb (Nat.le_refl _))
        replace C := Lib.hid (C.out.below hb)
        clear hb
        rw [HX.out]
        have d00 := C.out.2.1
        have d01 := C.out.2.2
        go_wp2_with fail
        refine (Wait_ok F R a _ HTT.out (by omega)).mono ?_
        rintro e w2 ⟨rfl, hb⟩
        clear d00 d01
        replace T := Lib.hid (Below.andThen T.out hb (Nat.le_refl _))
        replace C := Lib.hid (C.out.below hb)
        clear hb
        rw [HW.out]
        dsimp only [waitV]
        have E1 : Hid ((a : Int) + 1 = ((a + 1 : Nat) : Int)) := Lib.hid (by omega)
        have d00 := C.out.2.1
        have d01 := C.out.2.2
        go_wp2_with fail
        rw [E1.out]
        refine (Wait_ok F R (a + 1) _ HTT.out (by omega)).mono ?_
        rintro e w3 ⟨rfl, hb⟩
        clear d00 d01
        replace T := Lib.hid (Below.andThen T.out hb (Nat.le_refl _))
        replace C := Lib.hid (C.out.below hb)
        clear hb
        rw [HV.out]
        dsimp only [waitV]
        obtain ⟨m, rfl⟩ : ∃ m, j = a + 1 + m := ⟨j - (a + 1), by omega⟩
        rw [show a + 1 + m - a = m + 1 by omega, show a + 1 + m - (a + 1) = m by omega]
        have E2 : (((m + 1 : Nat) : Int) != (m : Int) + 1) = false := by rw [show (m : Int) + 1 = ((m + 1 : Nat) : Int) by omega, nat_neq]; simp
        have eb : (n : Int) % 20 = ((n % 20 : Nat) : Int) := by omega
        have lb : n % 20 < 20 := Nat.mod_lt _ (by omega)
        have EB := Lib.hid eb
        clear eb
        obtain ⟨p, q, x1, x2, x3⟩ := later_small (n % 20) HTT.out y1 (by omega)
        have HPQ := Lib.hid x1
        have HH := Lib.hid (x2 a)
        have HL := Lib.hid x3
        clear x1 x2 x3
        generalize n % 20 = u at *
        have d00 := C.out.2.1
        have d01 := C.out.2.2
        go_wp2_with fail
        rw [EB.out]
        refine (HL.out _).mono ?_
        rintro e w4 ⟨rfl, hb⟩
        clear d00 d01
        replace T := Lib.hid (Below.al (Below.andThen T.out hb (Nat.le_refl _)) (Nat.le_refl _) (Obj.cells #[.string p, .string q] 23))
        have D := Lib.hid (Two.new w4 p q 23)
        clear hb
        have E3 : Hid ((a : Int) + (u : Int) = ((a + u : Nat) : Int)) := Lib.hid (by omega)
        go_wp2_with fail
        rw [E3.out]
        refine (Has_ok p q (a + u) _ HPQ.out (by omega)).mono ?_
        rintro e w5 ⟨rfl, hb⟩
        replace T := Lib.hid (Below.andThen T.out hb (Nat.le_refl _))
        clear hb
        rw [HH.out, HX.out]
        go_wp2_with fail
        refine (awake_any _).mono ?_
        rintro e vz ⟨rfl, hb⟩
        replace T := Lib.hid (Below.andThen T.out hb (Nat.le_refl _))
        clear hb
        go_wp2_with fail
        exact bodyPost_ret (v := .bool true) (by simp [results, Try.results15, go_sem]) rfl ⟨rfl, T.out⟩
  · have HN2 := Lib.hid CN
    have e1 : endB R = false := by rw [ones_zero_end, hz1]; rfl
    have e2 : countN F R 5000 ≤ n := count_far (by omega) hz1 hz2
    have HE := Lib.hid e1
    clear CN e1 hz1 hz2
    have d00 := C.out.2.1
    have d01 := C.out.2.2
    go_wp2_with fail
    rw [HM.out]
    refine (HN2.out _).mono ?_
    rintro e w3 ⟨rfl, hb⟩
    clear d00 d01
    replace T := Lib.hid (Below.andThen T.out hb (Nat.le_refl _))
    replace C := Lib.hid (C.out.below hb)
    clear hb
    have d00 := C.out.2.1
    have d01 := C.out.2.2
    go_wp2_with fail
    refine (Endless_v F R false _ HTT.out HE.out).mono ?_
    rintro e w4 ⟨rfl, hb⟩
    clear d00 d01
    replace T := Lib.hid (Below.andThen T.out hb (Nat.le_refl _))
    replace C := Lib.hid (C.out.below hb)
    clear hb
    have d00 := C.out.2.1
    have d01 := C.out.2.2
    go_wp2_with fail
    refine (Count_ok F R 5000 _ HTT.out (by omega)).mono ?_
    rintro e w5 ⟨rfl, hb⟩
    clear d00 d01
    replace T := Lib.hid (Below.andThen T.out hb (Nat.le_refl _))
    replace C := Lib.hid (C.out.below hb)
    clear hb
    generalize countN F R 5000 = c at *
    have e3 : decide ((n : Nat) < c) = false := decide_eq_false (by omega)
    cases hX : hasB F R a with
    | true =>
      have HX := Lib.hid hX
      have HW := Lib.hid (next_here y3 hX)
      clear hX
      cases ho : nextO F R (a + 1) with
      | none =>
        have HV := Lib.hid ho
        clear ho
        have d00 := C.out.2.1
        have d01 := C.out.2.2
        go_wp2_with fail
        refine (Has_ok F R a _ HTT.out (by omega)).mono ?_
        rintro e w1 ⟨rfl, hb⟩
        clear d00 d01
        replace T := Lib.hid (Below.andThen T.out hb (Nat.le_refl _))
        replace C := Lib.hid (C.out.below hb)
        clear hb
        rw [HX.out]
        have d00 := C.out.2.1
        have d01 := C.out.2.2
        go_wp2_with fail
        refine (Wait_ok F R a _ HTT.out (by omega)).mono ?_
        rintro e w2 ⟨rfl, hb⟩
        clear d00 d01
        replace T := Lib.hid (Below.andThen T.out hb (Nat.le_refl _))
        replace C := Lib.hid (C.out.below hb)
        clear hb
        rw [HW.out]
        dsimp only [waitV]
        rw [Nat.sub_self]
        have E1 : Hid ((a : Int) + 1 = ((a + 1 : Nat) : Int)) := Lib.hid (by omega)
        have d00 := C.out.2.1
        have d01 := C.out.2.2
        go_wp2_with fail
        rw [E1.out]
        refine (Wait_ok F R (a + 1) _ HTT.out (by omega)).mono ?_
        rintro e w3 ⟨rfl, hb⟩
        clear d00 d01
        replace T := Lib.hid (Below.andThen T.out hb (Nat.le_refl _))
        replace C := Lib.hid (C.out.below hb)
        clear hb
        rw [HV.out]
        dsimp only [waitV]
        have eb : (n : Int) % 20 = ((n % 20 : Nat) : Int) := by omega
        have lb : n % 20 < 20 := Nat.mod_lt _ (by omega)
        have EB := Lib.hid eb
        clear eb
        obtain ⟨p, q, x1, x2, x3⟩ := later_small (n % 20) HTT.out y1 (by omega)
        have HPQ := Lib.hid x1
        have HH := Lib.hid (x2 a)
        have HL := Lib.hid x3
        clear x1 x2 x3
        generalize n % 20 = u at *
        have d00 := C.out.2.1
        have d01 := C.out.2.2
        go_wp2_with fail
        rw [EB.out]
        refine (HL.out _).mono ?_
        rintro e w4 ⟨rfl, hb⟩
        clear d00 d01
        replace T := Lib.hid (Below.al (Below.andThen T.out hb (Nat.le_refl _)) (Nat.le_refl _) (Obj.cells #[.string p, .string q] 23))
        have D := Lib.hid (Two.new w4 p q 23)
        clear hb
        have E3 : Hid ((a : Int) + (u : Int) = ((a + u : Nat) : Int)) := Lib.hid (by omega)
        go_wp2_with fail
        rw [E3.out]
        refine (Has_ok p q (a + u) _ HPQ.out (by omega)).mono ?_
        rintro e w5 ⟨rfl, hb⟩
        replace T := Lib.hid (Below.andThen T.out hb (Nat.le_refl _))
        clear hb
        rw [HH.out, HX.out]
        go_wp2_with fail
        refine (awake_any _).mono ?_
        rintro e vz ⟨rfl, hb⟩
        replace T := Lib.hid (Below.andThen T.out hb (Nat.le_refl _))
        clear hb
        go_wp2_with fail
        exact bodyPost_ret (v := .bool true) (by simp [results, Try.results15, go_sem]) rfl ⟨rfl, T.out⟩
      | some j =>
        have HV := Lib.hid ho
        have hj := (findFrom_ge ho).1
        have hj2 : j ≤ 100000000 := by have := (findFrom_ge ho).2; omega
        clear ho
        have d00 := C.out.2.1
        have d01 := C.out.2.2
        go_wp2_with fail
        refine (Has_ok F R a _ HTT.out (by omega)).mono ?_
        rintro e w1 ⟨rfl, hb⟩
        clear d00 d01
        replace T := Lib.hid (Below.andThen T.out hb (Nat.le_refl _))
        replace C := Lib.hid (C.out.below hb)
        clear hb
        rw [HX.out]
        have d00 := C.out.2.1
        have d01 := C.out.2.2
        go_wp2_with fail
        refine (Wait_ok F R a _ HTT.out (by omega)).mono ?_
        rintro e w2 ⟨rfl, hb⟩
        clear d00 d01
        replace T := Lib.hid (Below.andThen T.out hb (Nat.le_refl _))
        replace C := Lib.hid (C.out.below hb)
        clear hb
        rw [HW.out]
        dsimp only [waitV]
        rw [Nat.sub_self]
        have E1 : Hid ((a : Int) + 1 = ((a + 1 : Nat) : Int)) := Lib.hid (by omega)
        have d00 := C.out.2.1
        have d01 := C.out.2.2
        go_wp2_with fail
        rw [E1.out]
        refine (Wait_ok F R (a + 1) _ HTT.out (by omega)).mono ?_
        rintro e w3 ⟨rfl, hb⟩
        clear d00 d01
        replace T := Lib.hid (Below.andThen T.out hb (Nat.le_refl _))
        replace C := Lib.hid (C.out.below hb)
        clear hb
        rw [HV.out]
        dsimp only [waitV]
        generalize j - (a + 1) = jn at *
        have eb : (n : Int) % 20 = ((n % 20 : Nat) : Int) := by omega
        have lb : n % 20 < 20 := Nat.mod_lt _ (by omega)
        have EB := Lib.hid eb
        clear eb
        obtain ⟨p, q, x1, x2, x3⟩ := later_small (n % 20) HTT.out y1 (by omega)
        have HPQ := Lib.hid x1
        have HH := Lib.hid (x2 a)
        have HL := Lib.hid x3
        clear x1 x2 x3
        generalize n % 20 = u at *
        have d00 := C.out.2.1
        have d01 := C.out.2.2
        go_wp2_with fail
        rw [EB.out]
        refine (HL.out _).mono ?_
        rintro e w4 ⟨rfl, hb⟩
        clear d00 d01
        replace T := Lib.hid (Below.al (Below.andThen T.out hb (Nat.le_refl _)) (Nat.le_refl _) (Obj.cells #[.string p, .string q] 23))
        have D := Lib.hid (Two.new w4 p q 23)
        clear hb
        have E3 : Hid ((a : Int) + (u : Int) = ((a + u : Nat) : Int)) := Lib.hid (by omega)
        go_wp2_with fail
        rw [E3.out]
        refine (Has_ok p q (a + u) _ HPQ.out (by omega)).mono ?_
        rintro e w5 ⟨rfl, hb⟩
        replace T := Lib.hid (Below.andThen T.out hb (Nat.le_refl _))
        clear hb
        rw [HH.out, HX.out]
        go_wp2_with fail
        refine (awake_any _).mono ?_
        rintro e vz ⟨rfl, hb⟩
        replace T := Lib.hid (Below.andThen T.out hb (Nat.le_refl _))
        clear hb
        go_wp2_with fail
        exact bodyPost_ret (v := .bool true) (by simp [results, Try.results15, go_sem]) rfl ⟨rfl, T.out⟩
    | false =>
      have HX := Lib.hid hX
      have hsk := next_skip y3 hX
      clear hX
      cases ho : nextO F R a with
      | none =>
        have HV := Lib.hid (hsk.1.trans ho)
        have HW := Lib.hid ho
        clear ho hsk
        have d00 := C.out.2.1
        have d01 := C.out.2.2
        go_wp2_with fail
        refine (Has_ok F R a _ HTT.out (by omega)).mono ?_
        rintro e w1 ⟨rfl, hb⟩
        clear d00 d01
        replace T := Lib.hid (Below.andThen T.out hb (Nat.le_refl _))
        replace C := Lib.hid (C.out.below hb)
        clear hb
        rw [HX.out]
        have d00 := C.out.2.1
        have d01 := C.out.2.2
        go_wp2_with fail
        refine (Wait_ok F R a _ HTT.out (by omega)).mono ?_
        rintro e w2 ⟨rfl, hb⟩
        clear d00 d01
        replace T := Lib.hid (Below.andThen T.out hb (Nat.le_refl _))
        replace C := Lib.hid (C.out.below hb)
        clear hb
        rw [HW.out]
        dsimp only [waitV]
        have E1 : Hid ((a : Int) + 1 = ((a + 1 : Nat) : Int)) := Lib.hid (by omega)
        have d00 := C.out.2.1
        have d01 := C.out.2.2
        go_wp2_with fail
        rw [E1.out]
        refine (Wait_ok F R (a + 1) _ HTT.out (by omega)).mono ?_
        rintro e w3 ⟨rfl, hb⟩
        clear d00 d01
        replace T := Lib.hid (Below.andThen T.out hb (Nat.le_refl _))
        replace C := Lib.hid (C.out.below hb)
        clear hb
        rw [HV.out]
        dsimp only [waitV]
        have eb : (n : Int) % 20 = ((n % 20 : Nat) : Int) := by omega
        have lb : n % 20 < 20 := Nat.mod_lt _ (by omega)
        have EB := Lib.hid eb
        clear eb
        obtain ⟨p, q, x1, x2, x3⟩ := later_small (n % 20) HTT.out y1 (by omega)
        have HPQ := Lib.hid x1
        have HH := Lib.hid (x2 a)
        have HL := Lib.hid x3
        clear x1 x2 x3
        generalize n % 20 = u at *
        have d00 := C.out.2.1
        have d01 := C.out.2.2
        go_wp2_with fail
        rw [EB.out]
        refine (HL.out _).mono ?_
        rintro e w4 ⟨rfl, hb⟩
        clear d00 d01
        replace T := Lib.hid (Below.al (Below.andThen T.out hb (Nat.le_refl _)) (Nat.le_refl _) (Obj.cells #[.string p, .string q] 23))
        have D := Lib.hid (Two.new w4 p q 23)
        clear hb
        have E3 : Hid ((a : Int) + (u : Int) = ((a + u : Nat) : Int)) := Lib.hid (by omega)
        go_wp2_with fail
        rw [E3.out]
        refine (Has_ok p q (a + u) _ HPQ.out (by omega)).mono ?_
        rintro e w5 ⟨rfl, hb⟩
        replace T := Lib.hid (Below.andThen T.out hb (Nat.le_refl _))
        clear hb
        rw [HH.out, HX.out]
        go_wp2_with fail
        refine (awake_any _).mono ?_
        rintro e vz ⟨rfl, hb⟩
        replace T := Lib.hid (Below.andThen T.out hb (Nat.le_refl _))
        clear hb
        go_wp2_with fail
        exact bodyPost_ret (v := .bool true) (by simp [results, Try.results15, go_sem]) rfl ⟨rfl, T.out⟩
      | some j =>
        have HV := Lib.hid (hsk.1.trans ho)
        have HW := Lib.hid ho
        have hj := hsk.2 j ho
        have hj2 : j ≤ 100000000 := by have := (findFrom_ge ho).2; omega
        clear ho hsk
        have d00 := C.out.2.1
        have d01 := C.out.2.2
        go_wp2_with fail
        refine (Has_ok F R a _ HTT.out (by omega)).mono ?_
        rintro e w1 ⟨rfl, hb⟩
        clear d00 d01
        replace T := Lib.hid (Below.andThen T.out hb (Nat.le_refl _))
        replace C := Lib.hid (C.out.below hb)
        clear hb
        rw [HX.out]
        have d00 := C.out.2.1
        have d01 := C.out.2.2
        go_wp2_with fail
        refine (Wait_ok F R a _ HTT.out (by omega)).mono ?_
        rintro e w2 ⟨rfl, hb⟩
        clear d00 d01
        replace T := Lib.hid (Below.andThen T.out hb (Nat.le_refl _))
        replace C := Lib.hid (C.out.below hb)
        clear hb
        rw [HW.out]
        dsimp only [waitV]
        have E1 : Hid ((a : Int) + 1 = ((a + 1 : Nat) : Int)) := Lib.hid (by omega)
        have d00 := C.out.2.1
        have d01 := C.out.2.2
        go_wp2_with fail
        rw [E1.out]
        refine (Wait_ok F R (a + 1) _ HTT.out (by omega)).mono ?_
        rintro e w3 ⟨rfl, hb⟩
        clear d00 d01
        replace T := Lib.hid (Below.andThen T.out hb (Nat.le_refl _))
        replace C := Lib.hid (C.out.below hb)
        clear hb
        rw [HV.out]
        dsimp only [waitV]
        obtain ⟨m, rfl⟩ : ∃ m, j = a + 1 + m := ⟨j - (a + 1), by omega⟩
        rw [show a + 1 + m - a = m + 1 by omega, show a + 1 + m - (a + 1) = m by omega]
        have E2 : (((m + 1 : Nat) : Int) != (m : Int) + 1) = false := by rw [show (m : Int) + 1 = ((m + 1 : Nat) : Int) by omega, nat_neq]; simp
        have eb : (n : Int) % 20 = ((n % 20 : Nat) : Int) := by omega
        have lb : n % 20 < 20 := Nat.mod_lt _ (by omega)
        have EB := Lib.hid eb
        clear eb
        obtain ⟨p, q, x1, x2, x3⟩ := later_small (n % 20) HTT.out y1 (by omega)
        have HPQ := Lib.hid x1
        have HH := Lib.hid (x2 a)
        have HL := Lib.hid x3
        clear x1 x2 x3
        generalize n % 20 = u at *
        have d00 := C.out.2.1
        have d01 := C.out.2.2
        go_wp2_with fail
        rw [EB.out]
        refine (HL.out _).mono ?_
        rintro e w4 ⟨rfl, hb⟩
        clear d00 d01
        replace T := Lib.hid (Below.al (Below.andThen T.out hb (Nat.le_refl _)) (Nat.le_refl _) (Obj.cells #[.string p, .string q] 23))
        have D := Lib.hid (Two.new w4 p q 23)
        clear hb
        have E3 : Hid ((a : Int) + (u : Int) = ((a + u : Nat) : Int)) := Lib.hid (by omega)
        go_wp2_with fail
        rw [E3.out]
        refine (Has_ok p q (a + u) _ HPQ.out (by omega)).mono ?_
        rintro e w5 ⟨rfl, hb⟩
        replace T := Lib.hid (Below.andThen T.out hb (Nat.le_refl _))
        clear hb
        rw [HH.out, HX.out]
        go_wp2_with fail
        refine (awake_any _).mono ?_
        rintro e vz ⟨rfl, hb⟩
        replace T := Lib.hid (Below.andThen T.out hb (Nat.le_refl _))
        clear hb
        go_wp2_with fail
        exact bodyPost_ret (v := .bool true) (by simp [results, Try.results15, go_sem]) rfl ⟨rfl, T.out⟩
end Go.Proofs.Ytbhlddfjfcmncaa
