import Derived.Test.YtbhlddfjfcmncaaS
import Derived.Test.YtbhlddfjfcmncaaR
import Derived.Test.YtbhlddfjfcmncaaIter
import Derived.Maps.OwnIn
import Derived.Maps.OwnSet
import Derived.Test.YtbhlddfjfcmncaaShelf
import Derived.RangeFuncNested
import Derived.RangeFuncBound
import Derived.RangeFuncCalls
import Derived.RangeFuncLeaves
import Derived.Shelf.Abstract
import Derived.Shelf.RegionOpen
import Derived.WalkKit
import Derived.OwnWalkIn
import Derived.TacticsInMore
import Derived.LoopNIn
import Derived.LoopIn
import Derived.WalkSpells
import Derived.WalkLawsBesides
import Derived.BigQuiet
import Derived.Deep.QuietTactic
import Derived.Lib.Hide
import Derived.Deep.RegionHeld3
import Derived.StillTailTactics
import Derived.Lib.MakeNoZero
import Derived.Laws.CopyOwn
import Derived.Deep.RegionLaw
import Derived.Deep.LoopGhost
import Derived.Lib.IndexAny
namespace Go.Proofs.Ytbhlddfjfcmncaa
open Go.RowKit Go.Shelf
attribute [local go_sem] Oper.semAt_some
theorem min61 (n : Nat) : min (n : Int) 61 = ((min n 61 : Nat) : Int) := by omega
set_option maxRecDepth 100000 in
set_option maxHeartbeats 1000000 in
theorem own_any (f r : ByteArray) (w : World) (x1 : f.size ≤ 9223372036854775807) (x2 : r.size ≤ 9223372036854775807) :
    Calls Try.prog 17 #[.agg #[.string f, .string r]] w fun e w' => e = .returned (.agg #[.string (f.extract 0 (min f.size 61)), .string (r.extract 0 (min r.size 61))]) ∧ Below w.heap.size w w' := by
  have mf := min61 f.size
  have mr := min61 r.size
  have l1 : min f.size 61 ≤ f.size := by omega
  have l2 : min r.size 61 ≤ r.size := by omega
  generalize min f.size 61 = m at *
  generalize min r.size 61 = k at *
  go_enter Try.func17, Try.ntmps17
  go_wp2_with fail
  obtain ⟨W0, hW0⟩ : ∃ W0, W0 = (w.alloc (.cells #[.string f, .string r] 23)).alloc (.cells #[.string { data := #[] }, .string { data := #[] }] 24) := ⟨_, rfl⟩
  have B0 : Hid (Below w.heap.size w W0) := Lib.hid (by rw [hW0]; exact ((Below.refl _ _).alloc (Nat.le_refl _) _).alloc (by rw [size_al]; omega) _)
  have c0 : W0.cell? ⟨w.heap.size, 0, none⟩ = some (.string f) := by rw [hW0]; simp [cell_al]
  have c1 : W0.cell? ⟨w.heap.size, 1, none⟩ = some (.string r) := by rw [hW0]; simp [cell_al]
  have d0 : W0.cell? ⟨w.heap.size + 1, 0, none⟩ = some (.string { data := #[] }) := by rw [hW0]; simp [cell_al]
  have d1 : W0.cell? ⟨w.heap.size + 1, 1, none⟩ = some (.string { data := #[] }) := by rw [hW0]; simp [cell_al]
  have f0 : W0.frozen? ⟨w.heap.size + 1, 0, none⟩ = false := by rw [hW0]; simp [frozen_al]
  have f1 : W0.frozen? ⟨w.heap.size + 1, 1, none⟩ = false := by rw [hW0]; simp [frozen_al]
  rw [← hW0]
  clear hW0
  have sf : ∀ w, (Instr.slice 9 (.string f) none (some (.int .i64 (m : Int))) none).run Try.prog w = .ok (.string (f.extract 0 m)) w := fun w => by
    have := run_slice_string_h (P := Try.prog) (w := w) (t := 9) (s := f) (by rfl) .i64 (m : Int) (by omega) (by omega)
    simpa using this
  have sr : ∀ w, (Instr.slice 9 (.string r) none (some (.int .i64 (k : Int))) none).run Try.prog w = .ok (.string (r.extract 0 k)) w := fun w => by
    have := run_slice_string_h (P := Try.prog) (w := w) (t := 9) (s := r) (by rfl) .i64 (k : Int) (by omega) (by omega)
    simpa using this
  go_still_tail 15, (by kernel_rfl)
  go_wp2
  exact bodyPost_ret (v := .agg #[.string (f.extract 0 m), .string (r.extract 0 k)]) (by simp [results, Try.results17, go_sem, d0, d1]) rfl ⟨rfl, ((B0.out.setCell (p := ⟨w.heap.size + 1, 0, none⟩) (by show _ ≤ _ + 1; omega) _).setCell (p := ⟨w.heap.size + 1, 1, none⟩) (by show _ ≤ _ + 1; omega) _).drew⟩

set_option maxRecDepth 100000 in
set_option maxHeartbeats 1000000 in
theorem given_any (f r : ByteArray) (w : World) :
    Calls Try.prog 18 #[.agg #[.string f, .string r]] w fun e w' => e = .returned (.agg #[.string f, .string r]) ∧ Below w.heap.size w w' := by
  go_enter Try.func18, Try.ntmps18
  go_wp2_with fail
  exact bodyPost_ret (v := .agg #[.string f, .string r]) (by simp [results, Try.results18, go_sem, cell_al]) rfl ⟨rfl, Below.al (Below.al (Below.refl w.heap.size w) (Nat.le_refl _) _) (Nat.le_refl _) _⟩
theorem u8_ne48 (c : UInt8) : (((c.toNat : Nat) : Int) != 48) = !(c == 48) := by
  show (!(((c.toNat : Nat) : Int) == ((48 : Nat) : Int))) = _
  rw [u8_eq c 48 (by omega)]
  rfl
theorem u8_ne49 (c : UInt8) : (((c.toNat : Nat) : Int) != 49) = !(c == 49) := by
  show (!(((c.toNat : Nat) : Int) == ((49 : Nat) : Int))) = _
  rw [u8_eq c 49 (by omega)]
  rfl
theorem append_all (f r : ByteArray) : (f ++ r).data.toList.all isMark = (f.data.toList.all isMark && r.data.toList.all isMark) := by
  simp
/-- what ref.Check asks of the lengths -/
theorem tideB_append (f r : ByteArray) : tideB (f, r) = ((f ++ r).data.toList.all isMark && (decide (f.size ≤ 60) && (decide (1 ≤ r.size) && decide (r.size ≤ 60)))) := by
  rw [append_all]; unfold tideB marksB
  have : (!(r.size == 0)) = decide (1 ≤ r.size) := by
    by_cases h : r.size = 0
    · rw [h]; rfl
    · rw [decide_eq_true (by omega), beq_false_of_ne h]; rfl
  show ((!(r.size == 0)) && _ && _) = _
  rw [this]
  cases f.data.toList.all isMark <;> cases r.data.toList.all isMark <;> cases decide (f.size ≤ 60) <;> cases decide (1 ≤ r.size) <;> cases decide (r.size ≤ 60) <;> rfl
set_option maxRecDepth 100000 in
set_option maxHeartbeats 1000000 in
theorem refCheck_any (f r : ByteArray) (w : World) (x1 : f.size ≤ 61) (x2 : r.size ≤ 61) :
    Calls Try.prog 19 #[.agg #[.string f, .string r]] w fun e w' => e = .returned (.bool (tideB (f, r))) ∧ Below w.heap.size w w' := by
  have HT := Lib.hid (tideB_append f r)
  have hs : (f ++ r).size ≤ 122 := by rw [ByteArray.size_append]; omega
  go_enter Try.func19, Try.ntmps19
  go_wp2_with fail
  generalize f ++ r = s at *
  obtain ⟨W0, hW0⟩ : ∃ W0, W0 = w.alloc (.cells #[.string f, .string r] 24) := ⟨_, rfl⟩
  have B0 : Hid (Below w.heap.size w W0) := Lib.hid (by rw [hW0]; exact (Below.refl _ _).alloc (Nat.le_refl _) _)
  have c0 : W0.cell? ⟨w.heap.size, 0, none⟩ = some (.string f) := by rw [hW0]; simp [cell_al]
  have c1 : W0.cell? ⟨w.heap.size, 1, none⟩ = some (.string r) := by rw [hW0]; simp [cell_al]
  rw [← hW0]
  clear hW0
  go_loopw [4] (fun i wr => ∃ k : Nat, k ≤ s.size ∧ i = .int .i64 k ∧ Hid ((s.data.toList.take k).all isMark = true) ∧ wr = W0) (fun i _ => s.size - (intOf i).toNat)
  case atStart => exact ⟨0, Nat.zero_le _, rfl, Lib.hid rfl, rfl⟩
  case round =>
    obtain ⟨k, hk, rfl, hall, rfl⟩ := hrel
    by_cases hlt : k < s.size
    · have n1 := u8_ne48 (s[k]'hlt)
      have n2 := u8_ne49 (s[k]'hlt)
      have HA : Hid (isMark (s[k]'hlt) = true → (s.data.toList.take (k + 1)).all isMark = true) := Lib.hid (fun h => all_take_succ s isMark k hlt hall.out h)
      have HF : Hid (isMark (s[k]'hlt) = false → s.data.toList.all isMark = false) := Lib.hid (fun h => all_false_of s isMark k hlt h)
      have HM : Hid (isMark (s[k]'hlt) = ((s[k]'hlt) == 48 || (s[k]'hlt) == 49)) := Lib.hid rfl
      cases b1 : ((s[k]'hlt) == 48)
      · cases b2 : ((s[k]'hlt) == 49)
        · have HX : Hid (s.data.toList.all isMark = false) := Lib.hid (HF.out (by rw [HM.out, b1, b2]; rfl))
          rw [b1] at n1
          rw [b2] at n2
          clear b1 b2 HM HF HA
          go_wp2
          go_ret
          exact ⟨ret_bool (by rw [HT.out, HX.out]; rfl), B0.out⟩
        · have HX := Lib.hid (HA.out (by rw [HM.out, b1, b2]; rfl))
          rw [b1] at n1
          rw [b2] at n2
          clear b1 b2 HM HF HA
          go_wp2
          go_roundw
          case rel => exact ⟨k + 1, by omega, rfl, HX, trivial⟩
          case measure => simp [intOf]; omega
      · have HX := Lib.hid (HA.out (by rw [HM.out, b1]; rfl))
        rw [b1] at n1
        clear b1 HM HF HA
        go_wp2
        go_roundw
        case rel => exact ⟨k + 1, by omega, rfl, HX, trivial⟩
        case measure => simp [intOf]; omega
    · have HX : Hid (s.data.toList.all isMark = true) := Lib.hid (by
        have := hall.out; rw [List.take_of_length_le (by simp; omega)] at this; exact this)
      have HT2 := Lib.hid HT.out
      rw [HX.out, Bool.true_and] at HT2
      have q1 : decide ((f.size : Int) ≤ 60) = decide (f.size ≤ 60) := by rw [decide_eq_decide]; omega
      have q2 : decide (1 ≤ (r.size : Int)) = decide (1 ≤ r.size) := by rw [decide_eq_decide]; omega
      have q3 : decide ((r.size : Int) ≤ 60) = decide (r.size ≤ 60) := by rw [decide_eq_decide]; omega
      generalize decide (f.size ≤ 60) = d1 at *
      generalize decide (1 ≤ r.size) = d2 at *
      generalize decide (r.size ≤ 60) = d3 at *
      cases d1
      · go_wp2
        go_ret
        exact ⟨ret_bool HT2.out.symm, B0.out⟩
      · cases d2
        · go_wp2
          go_ret
          exact ⟨ret_bool HT2.out.symm, B0.out⟩
        · go_wp2
          go_ret
          exact ⟨ret_bool HT2.out.symm, B0.out⟩
end Go.Proofs.Ytbhlddfjfcmncaa
