import Derived.Test.YtbhlddfjfcmncaaYt
import Derived.Test.YtbhlddfjfcmncaaYe
import Derived.Test.YtbhlddfjfcmncaaYg
import Derived.Maps.OwnIn
import Derived.Maps.OwnSet
import Derived.RangeFuncNested
import Derived.RangeFuncBound
import Derived.RangeFuncCalls
import Derived.RangeFuncLeaves
import Derived.Shelf.Abstract
import Derived.Shelf.RegionOpen
import Derived.WalkKit
import Derived.OwnWalkIn
import Derived.TacticsInMore
import Derived.LoopNIn
import Derived.LoopIn
import Derived.WalkSpells
import Derived.WalkLawsBesides
import Derived.BigQuiet
import Derived.Deep.QuietTactic
import Derived.Lib.Hide
import Derived.Deep.RegionHeld3
import Derived.StillTailTactics
import Derived.Lib.MakeNoZero
import Derived.Laws.CopyOwn
import Derived.Deep.RegionLaw
import Derived.Deep.LoopGhost
import Derived.Deep.CutBlock
import Derived.Deep.AppendLies
import Derived.Deep.DeepCutAuto
import Derived.Lib.IndexAny
namespace Go.Proofs.Ytbhlddfjfcmncaa
open Go.RowKit Go.Shelf
attribute [local go_sem] Oper.semAt_some
theorem refGaps_any (f r : ByteArray) (w : World) (ht : tideB (f, r) = true) (he : endB r = true) (hne : 1 ≤ (gapsL f r).length) :
    Calls Try.prog 53 #[.agg #[.string f, .string r]] w fun e w' => ∃ g cap : Nat, e = .returned (.slice (some ⟨g, 0, none⟩) (gapsL f r).length cap) ∧ IntsAt w' g 0 (gapsL f r) ∧ g < w'.heap.size ∧ Below w.heap.size w w' := by
  refine (refGaps_own f r w ht he).mono ?_
  rintro e w' ⟨v, rfl, hown, hb⟩
  have hown2 := hown
  obtain ⟨h1, h2⟩ := hown
  rcases h2 with ⟨_, h2⟩ | ⟨g, cap, cur, rfl, hg, hh, hc, hc2, hc3, hc4⟩
  · omega
  · have hlt : g < w'.heap.size := (Array.getElem?_eq_some_iff.1 hh).1
    refine ⟨g, cap, rfl, fun i hi => ?_, hlt, hb⟩
    rw [Nat.zero_add, hown2.cellAt i (by omega)]
    simp [hi, encI]
theorem gapsL_pos {f r : ByteArray} (ht : tideB (f, r) = true) (he : endB r = true) : 1 ≤ (gapsL f r).length := by
  obtain ⟨z1, z2, z3⟩ := tideB_size ht
  obtain ⟨j, hj, hv⟩ := (endB_iff r).1 he
  have hh : hasB f r (f.size + j) = true := by
    unfold hasB; rw [if_neg (by omega), show f.size + j - f.size = j by omega, Nat.mod_eq_of_lt hj, hv]; rfl
  have hm : gapAt f r (f.size + j) ∈ accTo f r (f.size + r.size) := by
    unfold accTo
    refine List.mem_map.2 ⟨f.size + j, List.mem_filter.2 ⟨List.mem_range.2 (by omega), ?_⟩, rfl⟩
    rw [hh]; simp
  have hb := accTo_bd z2 z3 _ _ hm
  exact List.length_pos_of_mem (a := gapAt f r (f.size + j)) (List.mem_filter.2 ⟨List.mem_range.2 (by omega), by simpa using hm⟩)
theorem has0_ones {r : ByteArray} (hm : r.data.toList.all isMark = true) : (has0 r = true → ones r.data.toList < r.size) ∧ (has0 r = false → ¬ ones r.data.toList < r.size) := by
  have hsz : r.size = r.data.toList.length := by simp
  have hc : has0 r = true ↔ (48 : UInt8) ∈ r.data.toList := by
    unfold has0; rw [← Lib.contains_iff_indexByte, List.contains_iff_mem]
  have key : ones r.data.toList = r.data.toList.length ↔ (48 : UInt8) ∉ r.data.toList := by
    unfold ones
    rw [List.length_filter_eq_length_iff]
    constructor
    · intro h h9; have := h 48 h9; simp at this
    · intro h x hx
      rw [List.all_eq_true] at hm
      have := hm x hx
      unfold isMark at this
      simp only [Bool.or_eq_true, beq_iff_eq] at this
      rcases this with h1 | h1
      · subst h1; exact absurd hx h
      · simp [h1]
  have hle := List.length_filter_le (· == 49) r.data.toList
  constructor
  · intro h
    have : ones r.data.toList ≠ r.data.toList.length := fun e => key.1 e (hc.1 h)
    unfold ones at *; omega
  · intro h hlt
    have : (48 : UInt8) ∉ r.data.toList := fun h9 => by rw [hc.2 h9] at h; cases h
    have := key.2 this
    omega
/-- what both say of the longest window -/
theorem long_cases (f r : ByteArray) (ht : tideB (f, r) = true) :
    (∃ a b : Nat, (∀ W, Calls Try.prog 34 #[.agg #[.string f, .string r]] W fun e w' => e = .returned (.tuple #[.int .i64 a, .int .i64 b, .int .i64 0]) ∧ Below W.heap.size W w') ∧
      (∀ W, Calls Try.prog 49 #[.agg #[.string f, .string r]] W fun e w' => e = .returned (.tuple #[.int .i64 a, .int .i64 b, .bool true]) ∧ Below W.heap.size W w')) ∨
    (∃ a b : Nat, (∀ W, Calls Try.prog 34 #[.agg #[.string f, .string r]] W fun e w' => e = .returned (.tuple #[.int .i64 0, .int .i64 0, .int .i64 4]) ∧ Below W.heap.size W w') ∧
      (∀ W, Calls Try.prog 49 #[.agg #[.string f, .string r]] W fun e w' => e = .returned (.tuple #[.int .i64 a, .int .i64 b, .bool false]) ∧ Below W.heap.size W w')) := by
  obtain ⟨z1, z2, z3⟩ := tideB_size ht
  have hm := (tideB_marks ht).2
  cases h0 : has0 r
  · refine .inr ⟨(lstep (hasB f r) (f.size + 3 * r.size)).1, (lstep (hasB f r) (f.size + 3 * r.size)).2.1, fun W => ?_, fun W => ?_⟩
    · have := Longest_ok f r W ht; rw [h0] at this; exact this
    · have := refLongest_any f r W z1 z2 z3
      rw [decide_eq_false ((has0_ones hm).2 h0), Bool.and_false] at this; exact this
  · have hon := (has0_ones hm).1 h0
    -- an hour of the Round that is not in
    obtain ⟨z, hz1, hz2, hz⟩ : ∃ z, f.size ≤ z ∧ z < f.size + r.size ∧ hasB f r z = false := by
      have hc : (48 : UInt8) ∈ r.data.toList := by
        have h9 := h0; unfold has0 at h9; rwa [← Lib.contains_iff_indexByte, List.contains_iff_mem] at h9
      obtain ⟨j, hj, he⟩ := List.mem_iff_getElem.1 hc
      have hj' : j < r.size := by simpa using hj
      refine ⟨f.size + j, by omega, by omega, ?_⟩
      unfold hasB; rw [if_neg (by omega), show f.size + j - f.size = j by omega, Nat.mod_eq_of_lt hj', byteAt r j hj', he]; rfl
    have hp : Per (hasB f r) f.size r.size := by have := hasB_per f r 1; rwa [Nat.one_mul] at this
    obtain ⟨s1, s2⟩ := lstep_stays hp hz1 hz2 hz r.size
    rw [show f.size + 2 * r.size + r.size = f.size + 3 * r.size by omega] at s1 s2
    by_cases hl : (lstep (hasB f r) (f.size + 2 * r.size)).2.1 = 0
    · refine .inr ⟨(lstep (hasB f r) (f.size + 3 * r.size)).1, (lstep (hasB f r) (f.size + 3 * r.size)).2.1, fun W => ?_, fun W => ?_⟩
      · have := Longest_ok f r W ht; rw [h0, if_pos rfl] at this; unfold longV at this; rw [if_pos hl] at this; exact this
      · have := refLongest_any f r W z1 z2 z3
        rw [show decide (0 < (lstep (hasB f r) (f.size + 3 * r.size)).2.1) = false from decide_eq_false (by omega), Bool.false_and] at this; exact this
    · refine .inl ⟨(lstep (hasB f r) (f.size + 2 * r.size)).1, (lstep (hasB f r) (f.size + 2 * r.size)).2.1, fun W => ?_, fun W => ?_⟩
      · have := Longest_ok f r W ht; rw [h0, if_pos rfl] at this; unfold longV at this; rw [if_neg hl] at this; exact this
      · have := refLongest_any f r W z1 z2 z3
        rw [s1, s2, decide_eq_true hon, Bool.and_true, decide_eq_true (show 0 < (lstep (hasB f r) (f.size + 2 * r.size)).2.1 by omega)] at this; exact this
theorem Endless_v (f r : ByteArray) (b : Bool) (w : World) (ht : tideB (f, r) = true) (he : endB r = b) :
    Calls Try.prog 33 #[.agg #[.string f, .string r]] w fun e w' => e = .returned (.tuple #[.bool b, .int .i64 0]) ∧ Below w.heap.size w w' := by
  have h := Endless_ok f r w ht
  rw [he] at h; exact h
theorem refEndless_v (f r : ByteArray) (b : Bool) (w : World) (hr : r.size ≤ 1000) (he : endB r = b) :
    Calls Try.prog 50 #[.agg #[.string f, .string r]] w fun e w' => e = .returned (.bool b) ∧ Below w.heap.size w w' := by
  have h := refEndless_any f r w hr
  rw [he] at h; exact h
set_option maxRecDepth 100000 in
set_option maxHeartbeats 4000000 in
theorem TideWindows_any (f r : ByteArray) (w : World) (hf : f.size ≤ 9223372036854775807) (hr : r.size ≤ 9223372036854775807) :
    Calls Try.prog 11 #[.agg #[.string f, .string r]] w fun e w' => e = .returned (.bool true) ∧ Below w.heap.size w w' := by
  have HT : Hid (∀ W, Calls Try.prog 37 #[.agg #[.string f, .string r], .int .i64 60] W fun e w' => e = .returned (.agg #[.string (bitsV f 60), .string (tameR r 60)]) ∧ Below W.heap.size W w') := Lib.hid (fun W => tame_any f r 60 W hf hr (by omega))
  obtain ⟨ht, y1, y2⟩ := tame_facts f r 60 (by omega) (by omega)
  obtain ⟨_, _, y3⟩ := tideB_size ht
  generalize bitsV f 60 = F at *
  generalize tameR r 60 = R at *
  have LC := Lib.hid (long_cases F R ht)
  have HTT := Lib.hid ht
  have GL : Hid (∀ d ∈ gapsL F R, d < 200) := Lib.hid (fun d hd => by unfold gapsL gapsOf at hd; exact List.mem_range.1 (List.mem_filter.1 hd).1)
  have GN : Hid ((gapsL F R).length ≤ 200) := Lib.hid (by unfold gapsL gapsOf; exact Nat.le_trans (List.length_filter_le _ _) (by simp))
  have WN : worstN F R (F.size + R.size) ≤ 200 := worstN_le F R y1 y2 _ (by omega)
  clear ht
  go_enter Try.func11, Try.ntmps11
  go_wp2_with fail
  refine (HT.out _).mono ?_
  rintro e v1 ⟨rfl, hb⟩
  have T := Lib.hid (Below.al (Below.trans (Below.al (Below.refl w.heap.size w) (Nat.le_refl _) (Obj.cells #[.string f, .string r] 23)) (hb.mono (by rw [size_al]; omega))) (Nat.le_refl _) (Obj.cells #[.string F, .string R] 24))
  have C := Lib.hid (Two.new v1 F R 24)
  clear hb
  go_wp2_with fail
  generalize v1.alloc (Obj.cells #[.string F, .string R] 24) = V1 at *
  generalize v1.heap.size = b1 at *
  refine (given_any F R _).mono ?_
  rintro e v2 ⟨rfl, hb⟩
  replace T := Lib.hid (Below.al (Below.andThen T.out hb (Nat.le_refl _)) (Nat.le_refl _) (Obj.cells #[.string F, .string R] 23))
  replace C := Lib.hid ((C.out.below hb).alloc (Obj.cells #[.string F, .string R] 23))
  have D := Lib.hid (Two.new v2 F R 23)
  clear hb
  go_wp2_with fail
  generalize v2.alloc (Obj.cells #[.string F, .string R] 23) = V2 at *
  generalize v2.heap.size = b2 at *
  rcases LC.out with ⟨a, b, L1', L2'⟩ | ⟨a, b, L1', L2'⟩
  · have L1 := L1'
    have L2 := L2'
    cases hen : endB R
    · have L1 := Lib.hid L1
      have L2 := Lib.hid L2
      have he := Lib.hid hen
      clear hen
      clear L1' L2'
      refine (L1.out _).mono ?_
      rintro e w9 ⟨rfl, hb⟩
      replace T := Lib.hid (Below.andThen T.out hb (Nat.le_refl _))
      replace D := Lib.hid (D.out.below hb)
      replace C := Lib.hid (C.out.below hb)
      clear hb
      have p0 := D.out.2.1
      have p1 := D.out.2.2
      go_wp2_with fail
      clear p0 p1
      refine (Worst_none F R _ HTT.out he.out).mono ?_
      rintro e w9 ⟨rfl, hb⟩
      replace T := Lib.hid (Below.andThen T.out hb (Nat.le_refl _))
      replace D := Lib.hid (D.out.below hb)
      replace C := Lib.hid (C.out.below hb)
      clear hb
      have p0 := D.out.2.1
      have p1 := D.out.2.2
      go_wp2_with fail
      clear p0 p1
      refine (Gaps_none F R _ HTT.out he.out).mono ?_
      rintro e w9 ⟨rfl, hb⟩
      replace T := Lib.hid (Below.andThen T.out hb (Nat.le_refl _))
      replace D := Lib.hid (D.out.below hb)
      replace C := Lib.hid (C.out.below hb)
      clear hb
      have p0 := D.out.2.1
      have p1 := D.out.2.2
      go_wp2_with fail
      clear p0 p1
      refine (Endless_v F R false _ HTT.out he.out).mono ?_
      rintro e w9 ⟨rfl, hb⟩
      replace T := Lib.hid (Below.andThen T.out hb (Nat.le_refl _))
      replace D := Lib.hid (D.out.below hb)
      replace C := Lib.hid (C.out.below hb)
      clear hb
      have p0 := C.out.2.1
      have p1 := C.out.2.2
      go_wp2_with fail
      clear p0 p1
      refine (L2.out _).mono ?_
      rintro e w9 ⟨rfl, hb⟩
      replace T := Lib.hid (Below.andThen T.out hb (Nat.le_refl _))
      replace D := Lib.hid (D.out.below hb)
      replace C := Lib.hid (C.out.below hb)
      clear hb
      have p0 := C.out.2.1
      have p1 := C.out.2.2
      go_wp2_with fail
      clear p0 p1
      refine (refEndless_v F R false _ (by omega) he.out).mono ?_
      rintro e w9 ⟨rfl, hb⟩
      replace T := Lib.hid (Below.andThen T.out hb (Nat.le_refl _))
      replace D := Lib.hid (D.out.below hb)
      replace C := Lib.hid (C.out.below hb)
      clear hb
      go_wp2_with fail
      refine (awake_any _).mono ?_
      rintro e wz ⟨rfl, hb⟩
      have T9 := Lib.hid (Below.andThen T.out hb (Nat.le_refl _))
      clear hb
      go_wp2_with fail
      exact bodyPost_ret (v := .bool true) (by simp [results, Try.results11, go_sem]) rfl ⟨rfl, T9.out⟩
    · have L1 := Lib.hid L1
      have L2 := Lib.hid L2
      have he := Lib.hid hen
      clear hen
      clear L1' L2'
      refine (L1.out _).mono ?_
      rintro e w9 ⟨rfl, hb⟩
      replace T := Lib.hid (Below.andThen T.out hb (Nat.le_refl _))
      replace D := Lib.hid (D.out.below hb)
      replace C := Lib.hid (C.out.below hb)
      clear hb
      have p0 := D.out.2.1
      have p1 := D.out.2.2
      go_wp2_with fail
      clear p0 p1
      refine (Worst_ok F R _ HTT.out he.out).mono ?_
      rintro e w9 ⟨rfl, hb⟩
      replace T := Lib.hid (Below.andThen T.out hb (Nat.le_refl _))
      replace D := Lib.hid (D.out.below hb)
      replace C := Lib.hid (C.out.below hb)
      clear hb
      have p0 := D.out.2.1
      have p1 := D.out.2.2
      go_wp2_with fail
      clear p0 p1
      refine (Gaps_slice F R _ HTT.out he.out (gapsL_pos HTT.out he.out)).mono ?_
      rintro e w9 ⟨g, cap, rfl, hcell, hg1, hg2, hb⟩
      replace T := Lib.hid (Below.andThen T.out hb (Nat.le_refl _))
      replace D := Lib.hid (D.out.below hb)
      replace C := Lib.hid (C.out.below hb)
      have HCell := Lib.hid hcell
      clear hcell
      clear hb
      have p0 := D.out.2.1
      have p1 := D.out.2.2
      go_wp2_with fail
      clear p0 p1
      refine (Endless_v F R true _ HTT.out he.out).mono ?_
      rintro e w9 ⟨rfl, hb⟩
      replace T := Lib.hid (Below.andThen T.out hb (Nat.le_refl _))
      replace D := Lib.hid (D.out.below hb)
      replace C := Lib.hid (C.out.below hb)
      replace HCell := Lib.hid (fun i (h : i < (gapsL F R).length) => below_at hb hg2 (HCell.out i h))
      replace hg2 := Nat.lt_of_lt_of_le hg2 hb.size
      clear hb
      have p0 := C.out.2.1
      have p1 := C.out.2.2
      go_wp2_with fail
      clear p0 p1
      refine (L2.out _).mono ?_
      rintro e w9 ⟨rfl, hb⟩
      replace T := Lib.hid (Below.andThen T.out hb (Nat.le_refl _))
      replace D := Lib.hid (D.out.below hb)
      replace C := Lib.hid (C.out.below hb)
      replace HCell := Lib.hid (fun i (h : i < (gapsL F R).length) => below_at hb hg2 (HCell.out i h))
      replace hg2 := Nat.lt_of_lt_of_le hg2 hb.size
      clear hb
      have p0 := C.out.2.1
      have p1 := C.out.2.2
      go_wp2_with fail
      clear p0 p1
      refine (refEndless_v F R true _ (by omega) he.out).mono ?_
      rintro e w9 ⟨rfl, hb⟩
      replace T := Lib.hid (Below.andThen T.out hb (Nat.le_refl _))
      replace D := Lib.hid (D.out.below hb)
      replace C := Lib.hid (C.out.below hb)
      replace HCell := Lib.hid (fun i (h : i < (gapsL F R).length) => below_at hb hg2 (HCell.out i h))
      replace hg2 := Nat.lt_of_lt_of_le hg2 hb.size
      clear hb
      have p0 := C.out.2.1
      have p1 := C.out.2.2
      go_wp2_with fail
      clear p0 p1
      refine (refWorst_any F R _ HTT.out he.out).mono ?_
      rintro e w9 ⟨rfl, hb⟩
      replace T := Lib.hid (Below.andThen T.out hb (Nat.le_refl _))
      replace D := Lib.hid (D.out.below hb)
      replace C := Lib.hid (C.out.below hb)
      replace HCell := Lib.hid (fun i (h : i < (gapsL F R).length) => below_at hb hg2 (HCell.out i h))
      replace hg2 := Nat.lt_of_lt_of_le hg2 hb.size
      clear hb
      have p0 := C.out.2.1
      have p1 := C.out.2.2
      go_wp2_with fail
      clear p0 p1
      refine (refGaps_any F R _ HTT.out he.out (gapsL_pos HTT.out he.out)).mono ?_
      rintro e w10 ⟨g2, cap2, rfl, hI2, hg3, hb⟩
      replace T := Lib.hid (Below.andThen T.out hb (Nat.le_refl _))
      have hI1 : IntsAt w10 g 0 (gapsL F R) := fun i hi => by rw [Nat.zero_add]; exact below_at hb hg2 (HCell.out i hi)
      clear hb C D
      go_wp2_with fail
      refine (ints_any g 0 cap g2 0 cap2 (gapsL F R) (gapsL F R) _ _ _ rfl rfl (by have := GN.out; omega) (by have := GN.out; omega) hI1 hI2).mono ?_
      rintro e w11 ⟨rfl, nd, rfl⟩
      replace T := Lib.hid (below_drewN T.out nd)
      clear hI1 hI2
      rw [decide_eq_true (rfl : gapsL F R = gapsL F R)]
      go_wp2_with fail
      refine (awake_any _).mono ?_
      rintro e wz ⟨rfl, hb⟩
      have T9 := Lib.hid (Below.andThen T.out hb (Nat.le_refl _))
      clear hb
      go_wp2_with fail
      exact bodyPost_ret (v := .bool true) (by simp [results, Try.results11, go_sem]) rfl ⟨rfl, T9.out⟩
  · have L1 := L1'
    have L2 := L2'
    cases hen : endB R
    · have L1 := Lib.hid L1
      have L2 := Lib.hid L2
      have he := Lib.hid hen
      clear hen
      clear L1' L2'
      refine (L1.out _).mono ?_
      rintro e w9 ⟨rfl, hb⟩
      replace T := Lib.hid (Below.andThen T.out hb (Nat.le_refl _))
      replace D := Lib.hid (D.out.below hb)
      replace C := Lib.hid (C.out.below hb)
      clear hb
      have p0 := D.out.2.1
      have p1 := D.out.2.2
      go_wp2_with fail
      clear p0 p1
      refine (Worst_none F R _ HTT.out he.out).mono ?_
      rintro e w9 ⟨rfl, hb⟩
      replace T := Lib.hid (Below.andThen T.out hb (Nat.le_refl _))
      replace D := Lib.hid (D.out.below hb)
      replace C := Lib.hid (C.out.below hb)
      clear hb
      have p0 := D.out.2.1
      have p1 := D.out.2.2
      go_wp2_with fail
      clear p0 p1
      refine (Gaps_none F R _ HTT.out he.out).mono ?_
      rintro e w9 ⟨rfl, hb⟩
      replace T := Lib.hid (Below.andThen T.out hb (Nat.le_refl _))
      replace D := Lib.hid (D.out.below hb)
      replace C := Lib.hid (C.out.below hb)
      clear hb
      have p0 := D.out.2.1
      have p1 := D.out.2.2
      go_wp2_with fail
      clear p0 p1
      refine (Endless_v F R false _ HTT.out he.out).mono ?_
      rintro e w9 ⟨rfl, hb⟩
      replace T := Lib.hid (Below.andThen T.out hb (Nat.le_refl _))
      replace D := Lib.hid (D.out.below hb)
      replace C := Lib.hid (C.out.below hb)
      clear hb
      have p0 := C.out.2.1
      have p1 := C.out.2.2
      go_wp2_with fail
      clear p0 p1
      refine (L2.out _).mono ?_
      rintro e w9 ⟨rfl, hb⟩
      replace T := Lib.hid (Below.andThen T.out hb (Nat.le_refl _))
      replace D := Lib.hid (D.out.below hb)
      replace C := Lib.hid (C.out.below hb)
      clear hb
      have p0 := C.out.2.1
      have p1 := C.out.2.2
      go_wp2_with fail
      clear p0 p1
      refine (refEndless_v F R false _ (by omega) he.out).mono ?_
      rintro e w9 ⟨rfl, hb⟩
      replace T := Lib.hid (Below.andThen T.out hb (Nat.le_refl _))
      replace D := Lib.hid (D.out.below hb)
      replace C := Lib.hid (C.out.below hb)
      clear hb
      go_wp2_with fail
      refine (awake_any _).mono ?_
      rintro e wz ⟨rfl, hb⟩
      have T9 := Lib.hid (Below.andThen T.out hb (Nat.le_refl _))
      clear hb
      go_wp2_with fail
      exact bodyPost_ret (v := .bool true) (by simp [results, Try.results11, go_sem]) rfl ⟨rfl, T9.out⟩
    · have L1 := Lib.hid L1
      have L2 := Lib.hid L2
      have he := Lib.hid hen
      clear hen
      clear L1' L2'
      refine (L1.out _).mono ?_
      rintro e w9 ⟨rfl, hb⟩
      replace T := Lib.hid (Below.andThen T.out hb (Nat.le_refl _))
      replace D := Lib.hid (D.out.below hb)
      replace C := Lib.hid (C.out.below hb)
      clear hb
      have p0 := D.out.2.1
      have p1 := D.out.2.2
      go_wp2_with fail
      clear p0 p1
      refine (Worst_ok F R _ HTT.out he.out).mono ?_
      rintro e w9 ⟨rfl, hb⟩
      replace T := Lib.hid (Below.andThen T.out hb (Nat.le_refl _))
      replace D := Lib.hid (D.out.below hb)
      replace C := Lib.hid (C.out.below hb)
      clear hb
      have p0 := D.out.2.1
      have p1 := D.out.2.2
      go_wp2_with fail
      clear p0 p1
      refine (Gaps_slice F R _ HTT.out he.out (gapsL_pos HTT.out he.out)).mono ?_
      rintro e w9 ⟨g, cap, rfl, hcell, hg1, hg2, hb⟩
      replace T := Lib.hid (Below.andThen T.out hb (Nat.le_refl _))
      replace D := Lib.hid (D.out.below hb)
      replace C := Lib.hid (C.out.below hb)
      have HCell := Lib.hid hcell
      clear hcell
      clear hb
      have p0 := D.out.2.1
      have p1 := D.out.2.2
      go_wp2_with fail
      clear p0 p1
      refine (Endless_v F R true _ HTT.out he.out).mono ?_
      rintro e w9 ⟨rfl, hb⟩
      replace T := Lib.hid (Below.andThen T.out hb (Nat.le_refl _))
      replace D := Lib.hid (D.out.below hb)
      replace C := Lib.hid (C.out.below hb)
      replace HCell := Lib.hid (fun i (h : i < (gapsL F R).length) => below_at hb hg2 (HCell.out i h))
      replace hg2 := Nat.lt_of_lt_of_le hg2 hb.size
      clear hb
      have p0 := C.out.2.1
      have p1 := C.out.2.2
      go_wp2_with fail
      clear p0 p1
      refine (L2.out _).mono ?_
      rintro e w9 ⟨rfl, hb⟩
      replace T := Lib.hid (Below.andThen T.out hb (Nat.le_refl _))
      replace D := Lib.hid (D.out.below hb)
      replace C := Lib.hid (C.out.below hb)
      replace HCell := Lib.hid (fun i (h : i < (gapsL F R).length) => below_at hb hg2 (HCell.out i h))
      replace hg2 := Nat.lt_of_lt_of_le hg2 hb.size
      clear hb
      have p0 := C.out.2.1
      have p1 := C.out.2.2
      go_wp2_with fail
      clear p0 p1
      refine (refEndless_v F R true _ (by omega) he.out).mono ?_
      rintro e w9 ⟨rfl, hb⟩
      replace T := Lib.hid (Below.andThen T.out hb (Nat.le_refl _))
      replace D := Lib.hid (D.out.below hb)
      replace C := Lib.hid (C.out.below hb)
      replace HCell := Lib.hid (fun i (h : i < (gapsL F R).length) => below_at hb hg2 (HCell.out i h))
      replace hg2 := Nat.lt_of_lt_of_le hg2 hb.size
      clear hb
      have p0 := C.out.2.1
      have p1 := C.out.2.2
      go_wp2_with fail
      clear p0 p1
      refine (refWorst_any F R _ HTT.out he.out).mono ?_
      rintro e w9 ⟨rfl, hb⟩
      replace T := Lib.hid (Below.andThen T.out hb (Nat.le_refl _))
      replace D := Lib.hid (D.out.below hb)
      replace C := Lib.hid (C.out.below hb)
      replace HCell := Lib.hid (fun i (h : i < (gapsL F R).length) => below_at hb hg2 (HCell.out i h))
      replace hg2 := Nat.lt_of_lt_of_le hg2 hb.size
      clear hb
      have p0 := C.out.2.1
      have p1 := C.out.2.2
      go_wp2_with fail
      clear p0 p1
      refine (refGaps_any F R _ HTT.out he.out (gapsL_pos HTT.out he.out)).mono ?_
      rintro e w10 ⟨g2, cap2, rfl, hI2, hg3, hb⟩
      replace T := Lib.hid (Below.andThen T.out hb (Nat.le_refl _))
      have hI1 : IntsAt w10 g 0 (gapsL F R) := fun i hi => by rw [Nat.zero_add]; exact below_at hb hg2 (HCell.out i hi)
      clear hb C D
      go_wp2_with fail
      refine (ints_any g 0 cap g2 0 cap2 (gapsL F R) (gapsL F R) _ _ _ rfl rfl (by have := GN.out; omega) (by have := GN.out; omega) hI1 hI2).mono ?_
      rintro e w11 ⟨rfl, nd, rfl⟩
      replace T := Lib.hid (below_drewN T.out nd)
      clear hI1 hI2
      rw [decide_eq_true (rfl : gapsL F R = gapsL F R)]
      go_wp2_with fail
      refine (awake_any _).mono ?_
      rintro e wz ⟨rfl, hb⟩
      have T9 := Lib.hid (Below.andThen T.out hb (Nat.le_refl _))
      clear hb
      go_wp2_with fail
      exact bodyPost_ret (v := .bool true) (by simp [results, Try.results11, go_sem]) rfl ⟨rfl, T9.out⟩
end Go.Proofs.Ytbhlddfjfcmncaa
