import Derived.Test.YtbhlddfjfcmncaaT
import Derived.Test.YtbhlddfjfcmncaaR
import Derived.Test.YtbhlddfjfcmncaaIter
import Derived.Maps.OwnIn
import Derived.Maps.OwnSet
import Derived.Test.YtbhlddfjfcmncaaShelf
import Derived.RangeFuncNested
import Derived.RangeFuncBound
import Derived.RangeFuncCalls
import Derived.RangeFuncLeaves
import Derived.Shelf.Abstract
import Derived.Shelf.RegionOpen
import Derived.WalkKit
import Derived.OwnWalkIn
import Derived.TacticsInMore
import Derived.LoopNIn
import Derived.LoopIn
import Derived.WalkSpells
import Derived.WalkLawsBesides
import Derived.BigQuiet
import Derived.Deep.QuietTactic
import Derived.Lib.Hide
import Derived.Deep.RegionHeld3
import Derived.StillTailTactics
import Derived.Lib.MakeNoZero
import Derived.Laws.CopyOwn
import Derived.Deep.RegionLaw
import Derived.Deep.LoopGhost
import Derived.Lib.IndexAny
namespace Go.Proofs.Ytbhlddfjfcmncaa
open Go.RowKit Go.Shelf
attribute [local go_sem] Oper.semAt_some
set_option maxRecDepth 100000 in
set_option maxHeartbeats 1000000 in
theorem Has_ok (f r : ByteArray) (h : Nat) (w : World) (ht : tideB (f, r) = true) (hh : h ≤ 1000000000) :
    Calls Try.prog 22 #[.agg #[.string f, .string r], .int .i64 h] w fun e w' => e = .returned (.tuple #[.bool (hasB f r h), .int .i64 0]) ∧ Below w.heap.size w w' := by
  have E := checkAtE_ok ht ⟨Int.natCast_nonneg h, by omega⟩
  obtain ⟨z1, z2, z3⟩ := tideB_size ht
  clear ht
  go_enter Try.func22, Try.ntmps22
  go_wp2_with fail
  refine (checkAt_any f r h _ (size_le _ z1) (size_le _ z2)).mono ?_
  rintro e w1 ⟨rfl, hb1⟩
  have B1 : Hid (Below w.heap.size w w1) := Lib.hid (((Below.refl _ _).alloc (Nat.le_refl _) _).trans (hb1.mono (by rw [size_al]; omega)))
  have b0 := below_at hb1 (b := w.heap.size) (o := 0) (v := .string f) (by rw [size_al]; omega) (by simp [cell_al])
  have b1 := below_at hb1 (b := w.heap.size) (o := 1) (v := .string r) (by rw [size_al]; omega) (by simp [cell_al])
  clear hb1
  go_wp2_with fail
  refine (has_any f r h _ z3 (by omega)).mono ?_
  rintro e w2 ⟨rfl, hb2⟩
  have B2 : Hid (Below w.heap.size w w2) := Lib.hid (Below.andThen B1.out hb2 (Nat.le_refl _))
  clear hb2 b0 b1
  go_wp2_with fail
  go_ret2
  exact ⟨rfl, B2.out⟩

/-- whatever the hour: a number from 0 to 1000000000 -/
def hourV (x : Int) : Int := wrap64 ((IntKind.u64.wrap x).tmod 1000000001)
set_option maxRecDepth 100000 in
set_option maxHeartbeats 1000000 in
theorem hour_any (x : Int) (w : World) :
    Calls Try.prog 41 #[.int .i64 x] w fun e w' => e = .returned (.int .i64 (hourV x)) ∧ w' = w := by
  go_enter Try.func41, Try.ntmps41
  go_wp2
  go_ret
  exact ⟨rfl, rfl⟩
theorem hourV_nat (x : Int) : ∃ n : Nat, n ≤ 1000000000 ∧ hourV x = (n : Int) := by
  have h0 : 0 ≤ IntKind.u64.wrap x := by rw [IntKind.wrap_u64]; omega
  obtain ⟨a, ha⟩ := Int.eq_ofNat_of_zero_le h0
  refine ⟨a % 1000000001, by omega, ?_⟩
  unfold hourV
  rw [ha, show ((1000000001 : Int)) = ((1000000001 : Nat) : Int) from rfl, ← Int.ofNat_tmod]
  exact IntWalk.wrap64_in _ ⟨by omega, by omega⟩

set_option maxRecDepth 100000 in
set_option maxHeartbeats 1000000 in
theorem same_any (f r g s : ByteArray) (w : World) :
    Calls Try.prog 42 #[.agg #[.string f, .string r], .agg #[.string g, .string s]] w fun e w' => e = .returned (.bool ((f.toList == g.toList) && (r.toList == s.toList))) ∧ Below w.heap.size w w' := by
  cases h : (f.toList == g.toList)
  all_goals
    go_enter Try.func42, Try.ntmps42
    go_wp2
    go_ret
    exact ⟨rfl, Below.al (Below.al (Below.refl w.heap.size w) (Nat.le_refl _) _) (Nat.le_refl _) _⟩
theorem ones_le (l : List UInt8) : ones l ≤ l.length := List.length_filter_le _ _
theorem tideB_marks {f r : ByteArray} (h : tideB (f, r) = true) : f.data.toList.all isMark = true ∧ r.data.toList.all isMark = true := by
  unfold tideB marksB at h; simp only [Bool.and_eq_true] at h
  exact ⟨h.1.2.2, h.2.2⟩
theorem extract_list (f : ByteArray) (m : Nat) : (f.extract 0 m).data.toList = f.data.toList.take m := by
  rw [ByteArray.data_extract]; simp
theorem all_take {l : List UInt8} {p : UInt8 → Bool} (h : l.all p = true) (m : Nat) : (l.take m).all p = true := by
  rw [List.all_eq_true] at h ⊢
  intro x hx; exact h x (List.mem_of_mem_take hx)
theorem count_to (f : ByteArray) (m : Nat) (w : World) (hs : f.size ≤ 60) (hm : f.data.toList.all isMark = true) :
    Calls Try.prog 75 #[.string (f.extract 0 m)] w fun e w' => e = .returned (.int .i64 (ones (f.data.toList.take m))) ∧ Below w.heap.size w w' := by
  have := count_any (f.extract 0 m) w (by rw [ByteArray.size_extract]; omega) (by rw [extract_list]; exact all_take hm m)
  rw [extract_list] at this; exact this
/-- the hours before h in the tide, as Count counts them -/
def countN (f r : ByteArray) (h : Nat) : Nat :=
  if h ≤ f.size then ones (f.data.toList.take h) else ones f.data.toList + ((h - f.size) / r.size) * ones r.data.toList + ones (r.data.toList.take ((h - f.size) % r.size))
set_option maxRecDepth 100000 in
set_option maxHeartbeats 1000000 in
theorem Count_ok (f r : ByteArray) (h : Nat) (w : World) (ht : tideB (f, r) = true) (hh : h ≤ 1000000000) :
    Calls Try.prog 31 #[.agg #[.string f, .string r], .int .i64 h] w fun e w' => e = .returned (.tuple #[.int .i64 (countN f r h), .int .i64 0]) ∧ Below w.heap.size w w' := by
  have E := checkAtE_ok ht ⟨Int.natCast_nonneg h, by omega⟩
  obtain ⟨z1, z2, z3⟩ := tideB_size ht
  obtain ⟨M1, M2⟩ := tideB_marks ht
  clear ht
  have CC : Hid (∀ (t : ByteArray) W, (t = f ∨ ∃ m, t = f.extract 0 m) ∨ (t = r ∨ ∃ m, t = r.extract 0 m) → Calls Try.prog 75 #[.string t] W fun e w' => e = .returned (.int .i64 (ones t.data.toList)) ∧ Below W.heap.size W w') := Lib.hid (by
    intro t W ht
    rcases ht with (rfl | ⟨m, rfl⟩) | (rfl | ⟨m, rfl⟩)
    · exact count_any _ W (by omega) M1
    · rw [extract_list]; exact count_to _ m W z1 M1
    · exact count_any _ W (by omega) M2
    · rw [extract_list]; exact count_to _ m W z2 M2)
  clear M1 M2
  go_enter Try.func31, Try.ntmps31
  go_wp2_with fail
  refine (checkAt_any f r h _ (size_le _ z1) (size_le _ z2)).mono ?_
  rintro e w1 ⟨rfl, hb1⟩
  have B1 : Hid (Below w.heap.size w w1) := Lib.hid (((Below.refl _ _).alloc (Nat.le_refl _) _).trans (hb1.mono (by rw [size_al]; omega)))
  have b0 := below_at hb1 (b := w.heap.size) (o := 0) (v := .string f) (by rw [size_al]; omega) (by simp [cell_al])
  have b1 := below_at hb1 (b := w.heap.size) (o := 1) (v := .string r) (by rw [size_al]; omega) (by simp [cell_al])
  have lt : Hid (w.heap.size < w1.heap.size) := Lib.hid (by have := hb1.size; rw [size_al] at this; omega)
  clear hb1
  by_cases hle : h ≤ f.size
  · have t1 : decide ((h : Int) ≤ (f.size : Int)) = true := by simp; omega
    have HC : Hid (countN f r h = ones (f.data.toList.take h)) := Lib.hid (by unfold countN; rw [if_pos hle])
    go_wp2_with fail
    refine (CC.out (f.extract 0 h) _ (.inl (.inr ⟨h, rfl⟩))).mono ?_
    rintro e w2 ⟨rfl, hb2⟩
    have B2 := Lib.hid (Below.andThen B1.out hb2 (Nat.le_refl _))
    clear hb2
    go_wp2_with fail
    go_ret2
    exact ⟨by rw [HC.out]; rfl, B2.out⟩
  · have t1 : decide (h ≤ f.size) = false := decide_eq_false hle
    have HC : Hid (countN f r h = ones f.data.toList + ((h - f.size) / r.size) * ones r.data.toList + ones (r.data.toList.take ((h - f.size) % r.size))) := Lib.hid (by unfold countN; rw [if_neg hle])
    obtain ⟨d, hd⟩ : ∃ d, d = h - f.size := ⟨_, rfl⟩
    have hd9 : d ≤ 1000000000 := by omega
    have e1 : IntKind.i64.wrap ((h : Int) - (f.size : Int)) = (d : Int) := by rw [i64_of _ (by omega) (by omega)]; omega
    rw [← hd] at HC
    have q1 : ((d : Int)).tdiv (r.size : Int) = ((d / r.size : Nat) : Int) := by rw [← Int.ofNat_tdiv]
    have q2 : ((d : Int)).tmod (r.size : Int) = ((d % r.size : Nat) : Int) := by rw [← Int.ofNat_tmod]
    have q0 : ¬ ((r.size : Int) = 0) := by omega
    have q00 : ¬ (r.size = 0) := by omega
    have u1 : d / r.size ≤ 1000000000 := Nat.le_trans (Nat.div_le_self _ _) hd9
    have u2 : d % r.size ≤ r.size := Nat.le_of_lt (Nat.mod_lt _ (by omega))
    have e2 : IntKind.i64.wrap (((d / r.size : Nat)) : Int) = ((d / r.size : Nat) : Int) := i64_nat _ (by omega)
    have o1 : ones f.data.toList ≤ 60 := Nat.le_trans (ones_le _) (by simpa using z1)
    have o2 : ones r.data.toList ≤ 60 := Nat.le_trans (ones_le _) (by simpa using z2)
    have o3 : ones (r.data.toList.take (d % r.size)) ≤ 60 := Nat.le_trans (ones_le _) (by rw [List.length_take]; simp; omega)
    have sr : ∀ w, (Instr.slice 9 (.string r) none (some (.int .i64 ((d % r.size : Nat) : Int))) none).run Try.prog w = .ok (.string (r.extract 0 (d % r.size))) w := fun w => by
      have := run_slice_string_h (P := Try.prog) (w := w) (t := 9) (s := r) (by rfl) .i64 ((d % r.size : Nat) : Int) (by omega) (by omega)
      rw [this, Int.toNat_natCast]
    have m1 : d / r.size * ones r.data.toList ≤ 1000000000 * 60 := Nat.mul_le_mul u1 o2
    have e3 : IntKind.i64.wrap (((d / r.size : Nat) : Int) * (ones r.data.toList : Int)) = ((d / r.size * ones r.data.toList : Nat) : Int) := by rw [← Int.natCast_mul, i64_nat _ (by omega)]
    have e4 : IntKind.i64.wrap ((ones f.data.toList : Int) + ((d / r.size * ones r.data.toList : Nat) : Int)) = ((ones f.data.toList + d / r.size * ones r.data.toList : Nat) : Int) := by rw [← Int.natCast_add, i64_nat _ (by omega)]
    have e5 : IntKind.i64.wrap (((ones f.data.toList + d / r.size * ones r.data.toList : Nat) : Int) + (ones (r.data.toList.take (d % r.size)) : Int)) = ((ones f.data.toList + d / r.size * ones r.data.toList + ones (r.data.toList.take (d % r.size)) : Nat) : Int) := by rw [← Int.natCast_add, i64_nat _ (by omega)]
    clear hd hle u1 u2 o1 o2 o3 m1
    generalize ones f.data.toList + d / r.size * ones r.data.toList + ones (r.data.toList.take (d % r.size)) = N5 at *
    generalize ones f.data.toList + d / r.size * ones r.data.toList = N4 at *
    generalize d / r.size * ones r.data.toList = N3 at *
    generalize d / r.size = dq at *
    generalize d % r.size = dm at *
    go_wp2_with fail
    go_quiet (fail)
    go_wp2_with fail
    obtain ⟨W1, hW1⟩ : ∃ W1, W1 = w1.drewN nq := ⟨_, rfl⟩
    rw [← hW1]
    have T1 : Hid (Below w.heap.size w W1) := Lib.hid (by rw [hW1]; exact below_drewN B1.out _)
    have c0 : W1.cell? ⟨w.heap.size, 0, none⟩ = some (.string f) := by rw [hW1]; simpa using b0
    have c1 : W1.cell? ⟨w.heap.size, 1, none⟩ = some (.string r) := by rw [hW1]; simpa using b1
    have lt1 : w.heap.size < W1.heap.size := by rw [hW1]; exact lt.out
    clear hW1 b0 b1 B1 lt
    have BB : Below W1.heap.size W1 W1.drew := (Below.refl _ _).drew
    have SS : Hid (∀ W, Below W1.heap.size W1 W → Below W1.heap.size W1 W ∧ W.cell? ⟨w.heap.size, 0, none⟩ = some (.string f) ∧ W.cell? ⟨w.heap.size, 1, none⟩ = some (.string r)) :=
      Lib.hid (fun W h => ⟨h, below_at h lt1 c0, below_at h lt1 c1⟩)
    go_region_held3 (fun W => Below W1.heap.size W1 W ∧ W.cell? ⟨w.heap.size, 0, none⟩ = some (.string f) ∧ W.cell? ⟨w.heap.size, 1, none⟩ = some (.string r))
      (first
        | exact SS.out _ BB)
      (first
        | (go_at_call 75; refine (CC.out _ _ (by first | exact .inl (.inl rfl) | exact .inr (.inl rfl) | exact .inr (.inr ⟨_, rfl⟩))).mono ?_; rintro e wa ⟨rfl, hb⟩; replace BB := Below.andThen BB hb (Nat.le_refl _)))
    go_wp2_with fail
    go_ret2
    exact ⟨by rw [HC.out]; rfl, T1.out.trans (BB.mono T1.out.size)⟩
end Go.Proofs.Ytbhlddfjfcmncaa
