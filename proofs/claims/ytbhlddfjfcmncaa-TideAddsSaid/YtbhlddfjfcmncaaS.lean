import Derived.Test.YtbhlddfjfcmncaaQ
import Derived.Test.YtbhlddfjfcmncaaIter
import Derived.Maps.OwnIn
import Derived.Maps.OwnSet
import Derived.Test.YtbhlddfjfcmncaaShelf
import Derived.RangeFuncNested
import Derived.RangeFuncBound
import Derived.RangeFuncCalls
import Derived.RangeFuncLeaves
import Derived.Shelf.Abstract
import Derived.Shelf.RegionOpen
import Derived.WalkKit
import Derived.OwnWalkIn
import Derived.TacticsInMore
import Derived.LoopNIn
import Derived.LoopIn
import Derived.WalkSpells
import Derived.WalkLawsBesides
import Derived.BigQuiet
import Derived.Deep.QuietTactic
import Derived.Lib.Hide
import Derived.Deep.RegionHeld3
import Derived.StillTailTactics
import Derived.Lib.MakeNoZero
import Derived.Laws.CopyOwn
import Derived.Deep.RegionLaw
import Derived.Deep.LoopGhost
import Derived.Lib.IndexAny
namespace Go.Proofs.Ytbhlddfjfcmncaa
open Go.RowKit Go.Shelf
attribute [local go_sem] Oper.semAt_some
set_option maxRecDepth 100000 in
set_option maxHeartbeats 1000000 in
theorem Nth_err (f r : ByteArray) (n : Int) (w : World) (hf : f.size ≤ 9223372036854775807) (hr : r.size ≤ 9223372036854775807) (ht : tideB (f, r) = false) :
    Calls Try.prog 32 #[.agg #[.string f, .string r], .int .i64 n] w fun e w' => e = .returned (.tuple #[.int .i64 0, .int .i64 10]) ∧ Below w.heap.size w w' := by
  have E := checkE_no ht
  clear ht
  go_enter Try.func32, Try.ntmps32
  go_wp2_with fail
  refine (check_one (w.heap.size + 1) _ f r _ (by simp [cell_al]) (by simp [cell_al]) hf hr).mono ?_
  rintro e w1 ⟨rfl, hb1⟩
  have B1 : Hid (Below w.heap.size w w1) := Lib.hid ((((Below.refl _ _).alloc (Nat.le_refl _) _).alloc (by rw [size_al]; omega) _).trans (hb1.mono (by rw [size_al, size_al]; omega)))
  clear hb1
  go_wp2_with fail
  go_ret2
  exact ⟨rfl, B1.out⟩

set_option maxRecDepth 100000 in
set_option maxHeartbeats 1000000 in
theorem Longest_err (f r : ByteArray) (w : World) (hf : f.size ≤ 9223372036854775807) (hr : r.size ≤ 9223372036854775807) (ht : tideB (f, r) = false) :
    Calls Try.prog 34 #[.agg #[.string f, .string r]] w fun e w' => e = .returned (.tuple #[.int .i64 0, .int .i64 0, .int .i64 10]) ∧ Below w.heap.size w w' := by
  have E := checkE_no ht
  clear ht
  go_enter Try.func34, Try.ntmps34
  go_wp2_with fail
  refine (check_one (w.heap.size + 1) _ f r _ (by simp [cell_al]) (by simp [cell_al]) hf hr).mono ?_
  rintro e w1 ⟨rfl, hb1⟩
  have B1 : Hid (Below w.heap.size w w1) := Lib.hid ((((Below.refl _ _).alloc (Nat.le_refl _) _).alloc (by rw [size_al]; omega) _).trans (hb1.mono (by rw [size_al, size_al]; omega)))
  clear hb1
  go_wp2_with fail
  exact bodyPost_ret (v := .tuple #[.int .i64 0, .int .i64 0, .int .i64 10]) (by simp [results, Try.results34, go_sem]) rfl ⟨rfl, B1.out⟩

set_option maxRecDepth 100000 in
set_option maxHeartbeats 1000000 in
theorem Worst_err (f r : ByteArray) (w : World) (hf : f.size ≤ 9223372036854775807) (hr : r.size ≤ 9223372036854775807) (ht : tideB (f, r) = false) :
    Calls Try.prog 35 #[.agg #[.string f, .string r]] w fun e w' => e = .returned (.tuple #[.int .i64 0, .int .i64 10]) ∧ Below w.heap.size w w' := by
  have E := checkE_no ht
  clear ht
  go_enter Try.func35, Try.ntmps35
  go_wp2_with fail
  refine (check_one (w.heap.size + 1) _ f r _ (by simp [cell_al]) (by simp [cell_al]) hf hr).mono ?_
  rintro e w1 ⟨rfl, hb1⟩
  have B1 : Hid (Below w.heap.size w w1) := Lib.hid ((((Below.refl _ _).alloc (Nat.le_refl _) _).alloc (by rw [size_al]; omega) _).trans (hb1.mono (by rw [size_al, size_al]; omega)))
  clear hb1
  go_wp2_with fail
  go_ret2
  exact ⟨rfl, B1.out⟩

set_option maxRecDepth 100000 in
set_option maxHeartbeats 1000000 in
theorem Gaps_err (f r : ByteArray) (w : World) (hf : f.size ≤ 9223372036854775807) (hr : r.size ≤ 9223372036854775807) (ht : tideB (f, r) = false) :
    Calls Try.prog 36 #[.agg #[.string f, .string r]] w fun e w' => e = .returned (.tuple #[.slice none 0 0, .int .i64 10]) ∧ Below w.heap.size w w' := by
  have E := checkE_no ht
  clear ht
  go_enter Try.func36, Try.ntmps36
  go_wp2_with fail
  refine (check_one (w.heap.size + 1) _ f r _ (by simp [cell_al]) (by simp [cell_al]) hf hr).mono ?_
  rintro e w1 ⟨rfl, hb1⟩
  have B1 : Hid (Below w.heap.size w w1) := Lib.hid ((((Below.refl _ _).alloc (Nat.le_refl _) _).alloc (by rw [size_al]; omega) _).trans (hb1.mono (by rw [size_al, size_al]; omega)))
  clear hb1
  go_wp2_with fail
  go_ret2
  exact ⟨rfl, B1.out⟩

set_option maxRecDepth 100000 in
set_option maxHeartbeats 1000000 in
theorem Has_err (f r : ByteArray) (h : Int) (c : Int) (w : World) (hf : f.size ≤ 9223372036854775807) (hr : r.size ≤ 9223372036854775807) (hE : checkAtE f r h = c) (hc : (c != 0) = true) :
    Calls Try.prog 22 #[.agg #[.string f, .string r], .int .i64 h] w fun e w' => e = .returned (.tuple #[.bool false, .int .i64 c]) ∧ Below w.heap.size w w' := by
  go_enter Try.func22, Try.ntmps22
  go_wp2_with fail
  refine (checkAt_any f r h _ hf hr).mono ?_
  rintro e w1 ⟨rfl, hb1⟩
  have B1 : Hid (Below w.heap.size w w1) := Lib.hid (((Below.refl _ _).alloc (Nat.le_refl _) _).trans (hb1.mono (by rw [size_al]; omega)))
  clear hb1
  go_wp2_with fail
  go_ret2
  exact ⟨rfl, B1.out⟩

set_option maxRecDepth 100000 in
set_option maxHeartbeats 1000000 in
theorem Count_err (f r : ByteArray) (h : Int) (c : Int) (w : World) (hf : f.size ≤ 9223372036854775807) (hr : r.size ≤ 9223372036854775807) (hE : checkAtE f r h = c) (hc : (c != 0) = true) :
    Calls Try.prog 31 #[.agg #[.string f, .string r], .int .i64 h] w fun e w' => e = .returned (.tuple #[.int .i64 0, .int .i64 c]) ∧ Below w.heap.size w w' := by
  go_enter Try.func31, Try.ntmps31
  go_wp2_with fail
  refine (checkAt_any f r h _ hf hr).mono ?_
  rintro e w1 ⟨rfl, hb1⟩
  have B1 : Hid (Below w.heap.size w w1) := Lib.hid (((Below.refl _ _).alloc (Nat.le_refl _) _).trans (hb1.mono (by rw [size_al]; omega)))
  clear hb1
  go_wp2_with fail
  go_ret2
  exact ⟨rfl, B1.out⟩

set_option maxRecDepth 100000 in
set_option maxHeartbeats 1000000 in
theorem Same_err (f r g s : ByteArray) (w : World) (hE : checkE2 f r g s = 10) (x1 : f.size ≤ 9223372036854775807) (x2 : r.size ≤ 9223372036854775807) (x3 : g.size ≤ 9223372036854775807) (x4 : s.size ≤ 9223372036854775807) :
    Calls Try.prog 24 #[.agg #[.string f, .string r], .agg #[.string g, .string s]] w fun e w' => e = .returned (.tuple #[.int .i64 0, .bool false, .int .i64 10]) ∧ Below w.heap.size w w' := by
  go_enter Try.func24, Try.ntmps24
  go_wp2_with fail
  refine (check_two (w.heap.size + 1 + 1) _ f r g s _ (by simp [cell_al]) (by simp [cell_al]) (by simp [cell_al]) (by simp [cell_al]) x1 x2 x3 x4).mono ?_
  rintro e w1 ⟨rfl, hb1⟩
  have B1 : Hid (Below w.heap.size w w1) := Lib.hid (((((Below.refl _ _).alloc (Nat.le_refl _) _).alloc (by rw [size_al]; omega) _).alloc (by rw [size_al, size_al]; omega) _).trans (hb1.mono (by rw [size_al, size_al, size_al]; omega)))
  clear hb1
  go_wp2_with fail
  exact bodyPost_ret (v := .tuple #[.int .i64 0, .bool false, .int .i64 10]) (by simp [results, Try.results24, go_sem]) rfl ⟨rfl, B1.out⟩
set_option maxRecDepth 100000 in
set_option maxHeartbeats 1000000 in
theorem Later_err (f r : ByteArray) (n : Int) (w : World) (hf : f.size ≤ 9223372036854775807) (hr : r.size ≤ 9223372036854775807) (ht : tideB (f, r) = false) :
    Calls Try.prog 28 #[.agg #[.string f, .string r], .int .i64 n] w fun e w' => e = .returned (errV 10) ∧ Below w.heap.size w w' := by
  have E := checkE_no ht
  clear ht
  go_enter Try.func28, Try.ntmps28
  go_wp2_with fail
  refine (check_one (w.heap.size + 1 + 1) _ f r _ (by simp [cell_al]) (by simp [cell_al]) hf hr).mono ?_
  rintro e w1 ⟨rfl, hb1⟩
  have B1 : Hid (Below w.heap.size w w1) := Lib.hid (((((Below.refl _ _).alloc (Nat.le_refl _) _).alloc (by rw [size_al]; omega) _).alloc (by rw [size_al, size_al]; omega) _).trans (hb1.mono (by rw [size_al, size_al, size_al]; omega)))
  have c0 := below_at hb1 (b := w.heap.size + 1) (o := 0) (v := .string { data := #[] }) (by rw [size_al, size_al, size_al]; omega) (by simp [cell_al])
  have c1 := below_at hb1 (b := w.heap.size + 1) (o := 1) (v := .string { data := #[] }) (by rw [size_al, size_al, size_al]; omega) (by simp [cell_al])
  have f0 : w1.frozen? ⟨w.heap.size + 1, 0, none⟩ = false := (hb1.frozen (p := ⟨w.heap.size + 1, 0, none⟩) (by show _ + 1 < _; rw [size_al, size_al, size_al]; omega)).trans (by simp [frozen_al])
  have f1 : w1.frozen? ⟨w.heap.size + 1, 1, none⟩ = false := (hb1.frozen (p := ⟨w.heap.size + 1, 1, none⟩) (by show _ + 1 < _; rw [size_al, size_al, size_al]; omega)).trans (by simp [frozen_al])
  clear hb1
  go_wp2_with fail
  exact bodyPost_ret (v := errV 10) (by simp [results, Try.results28, go_sem, c0, c1]; rfl) rfl ⟨rfl, (B1.out.setCell (p := ⟨w.heap.size + 1, 0, none⟩) (by show _ ≤ _ + 1; omega) _).setCell (p := ⟨w.heap.size + 1, 1, none⟩) (by show _ ≤ _ + 1; omega) _⟩
end Go.Proofs.Ytbhlddfjfcmncaa
