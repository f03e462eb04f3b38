import Derived.Test.YtbhlddfjfcmncaaYc
import Derived.Maps.OwnIn
import Derived.Maps.OwnSet
import Derived.RangeFuncNested
import Derived.RangeFuncBound
import Derived.RangeFuncCalls
import Derived.RangeFuncLeaves
import Derived.Shelf.Abstract
import Derived.Shelf.RegionOpen
import Derived.WalkKit
import Derived.OwnWalkIn
import Derived.TacticsInMore
import Derived.LoopNIn
import Derived.LoopIn
import Derived.WalkSpells
import Derived.WalkLawsBesides
import Derived.BigQuiet
import Derived.Deep.QuietTactic
import Derived.Lib.Hide
import Derived.Deep.RegionHeld3
import Derived.StillTailTactics
import Derived.Lib.MakeNoZero
import Derived.Laws.CopyOwn
import Derived.Deep.RegionLaw
import Derived.Deep.LoopGhost
import Derived.Deep.CutBlock
import Derived.Deep.DeepCutAuto
import Derived.Lib.IndexAny
namespace Go.Proofs.Ytbhlddfjfcmncaa
open Go.RowKit Go.Shelf
attribute [local go_sem] Oper.semAt_some
set_option maxRecDepth 100000 in
set_option maxHeartbeats 1000000 in
theorem refHas_first (f r : ByteArray) (h : Nat) (w : World) (hlt : h < f.size) :
    Calls Try.prog 39 #[.agg #[.string f, .string r], .int .i64 h] w fun e w' => e = .returned (.bool (hasB f r h)) ∧ Below w.heap.size w w' := by
  go_enter Try.func39, Try.ntmps39
  go_wp2
  go_ret
  refine ⟨ret_bool ?_, (Below.refl _ _).alloc (Nat.le_refl _) _⟩
  rw [u8_eq49]; unfold hasB; rw [if_pos hlt]
  show (f[h] == 49) = _
  simp [Array.getD, hlt]; rfl
set_option maxRecDepth 100000 in
set_option maxHeartbeats 1000000 in
theorem refHas_round (f r : ByteArray) (h : Nat) (w : World) (hr1 : 1 ≤ r.size) (hlt : f.size ≤ h) (hb : h ≤ 4000000000) :
    Calls Try.prog 39 #[.agg #[.string f, .string r], .int .i64 h] w fun e w' => e = .returned (.bool (hasB f r h)) ∧ Below w.heap.size w w' := by
  have e1 : IntKind.i64.wrap ((h : Int) - (f.size : Int)) = ((h - f.size : Nat) : Int) := by rw [i64_of _ (by omega) (by omega)]; omega
  have e2 : (((h - f.size : Nat) : Int)).tmod (r.size : Int) = (((h - f.size) % r.size : Nat) : Int) := by
    rw [← Int.ofNat_tmod]
  have e3 : (h - f.size) % r.size < r.size := Nat.mod_lt _ (by omega)
  have e4 : ¬ ((r.size : Int) = 0) := by omega
  have fin : hasB f r h = (r[(h - f.size) % r.size] == 49) := by
    unfold hasB; rw [if_neg (by omega)]
    simp [Array.getD, e3]; rfl
  have Fin := Lib.hid fin
  clear fin
  revert Fin
  generalize h - f.size = k at *
  generalize k % r.size = m at *
  intro Fin
  go_enter Try.func39, Try.ntmps39
  go_wp2
  go_quiet (fail)
  go_wp2
  go_ret
  exact ⟨ret_bool (by rw [Fin.out, u8_eq49]), below_drewN ((Below.refl _ _).alloc (Nat.le_refl _) _) _⟩
theorem refHas_any (f r : ByteArray) (h : Nat) (w : World) (hr1 : 1 ≤ r.size) (hb : h ≤ 4000000000) :
    Calls Try.prog 39 #[.agg #[.string f, .string r], .int .i64 h] w fun e w' => e = .returned (.bool (hasB f r h)) ∧ Below w.heap.size w w' := by
  by_cases hlt : h < f.size
  · exact refHas_first f r h w hlt
  · exact refHas_round f r h w hr1 (by omega) hb
set_option maxRecDepth 100000 in
set_option maxHeartbeats 1000000 in
theorem refOnes_any (s : ByteArray) (w : World) (hs : s.size ≤ 1000000) :
    Calls Try.prog 83 #[.string s] w fun e w' => e = .returned (.int .i64 (ones s.data.toList)) ∧ w' = w := by
  go_enter Try.func83, Try.ntmps83
  go_wp2
  go_loopw [3, 4] (fun n i wr => ∃ k : Nat, k ≤ s.size ∧ i = .int .i64 k ∧ n = .int .i64 (ones (s.data.toList.take k)) ∧ wr = w) (fun _ i _ => s.size - (intOf i).toNat)
  case atStart => exact ⟨0, Nat.zero_le _, rfl, rfl, rfl⟩
  case round =>
    obtain ⟨k, hk, rfl, rfl, rfl⟩ := hrel
    have hle : ones (s.data.toList.take k) ≤ k := by
      unfold ones; exact Nat.le_trans (List.length_filter_le _ _) (List.length_take_le _ _)
    by_cases hlt : k < s.size
    · have hs1 := Lib.hid (ones_take_succ s k hlt)
      have e9 := Lib.hid (u8_eq49 s[k])
      cases hb : (((s[k].toNat : Nat) : Int) == 49)
      all_goals
        have HB := Lib.hid hb
        go_wp2
        go_roundw
        case rel => exact ⟨k + 1, by omega, rfl, by rw [hs1.out, ← e9.out, HB.out]; simp, trivial⟩
        case measure => simp [intOf]; omega
    · have hke : k = s.size := by omega
      have HE : Hid (ones (s.data.toList.take k) = ones s.data.toList) := Lib.hid (by rw [List.take_of_length_le (by simp; omega)])
      clear hke
      go_wp2
      go_ret
      exact ⟨ret_int (by rw [HE.out]), rfl⟩
/-- the wait that the reference reckons -/
def rwait (f r : ByteArray) (h : Nat) : Int := match findFrom (hasB f r) (f.size + r.size) h with
  | some k => ((k - h : Nat) : Int)
  | none => -1
set_option maxRecDepth 100000 in
set_option maxHeartbeats 1000000 in
theorem refWait_any (f r : ByteArray) (h : Nat) (w : World) (hf : f.size ≤ 60) (hr : r.size ≤ 60) (hr1 : 1 ≤ r.size) (hh : h ≤ 1000000000) :
    Calls Try.prog 38 #[.agg #[.string f, .string r], .int .i64 h] w fun e w' => e = .returned (.int .i64 (rwait f r h)) ∧ Below w.heap.size w w' := by
  go_enter Try.func38, Try.ntmps38
  go_wp2_with fail
  go_loopw [5] (fun i wr => ∃ k : Nat, k ≤ f.size + r.size ∧ i = .int .i64 k ∧ Hid (findFrom (hasB f r) (f.size + r.size) h = findFrom (hasB f r) (f.size + r.size - k) (h + k)) ∧ Hid (Below (w.heap.size + 1) (w.alloc (.cells #[.string f, .string r] 24)) wr)) (fun i _ => f.size + r.size - (intOf i).toNat)
  case atStart => exact ⟨0, Nat.zero_le _, rfl, Lib.hid rfl, Lib.hid (Below.refl _ _)⟩
  case round =>
    obtain ⟨k, hk, rfl, hN, hB⟩ := hrel
    have c0 := below_at hB.out (b := w.heap.size) (o := 0) (v := .string f) (by omega) (by simp)
    have c1 := below_at hB.out (b := w.heap.size) (o := 1) (v := .string r) (by omega) (by simp)
    by_cases hlt : k < f.size + r.size
    · have t1 : decide ((k : Int) < (f.size : Int) + (r.size : Int)) = true := decide_eq_true (by omega)
      have e1 : IntKind.i64.wrap ((h : Int) + (k : Int)) = ((h + k : Nat) : Int) := by rw [i64_of _ (by omega) (by omega)]; omega
      have HS : Hid (findFrom (hasB f r) (f.size + r.size) h = if hasB f r (h + k) then some (h + k) else findFrom (hasB f r) (f.size + r.size - (k + 1)) (h + (k + 1))) := Lib.hid (by
        rw [hN.out, show f.size + r.size - k = (f.size + r.size - (k + 1)) + 1 by omega, findFrom]; rfl)
      obtain ⟨hk9, hk9e⟩ : ∃ n, n = h + k := ⟨_, rfl⟩
      rw [← hk9e] at e1 HS
      have HH : Hid (∀ W, Calls Try.prog 39 #[.agg #[.string f, .string r], .int .i64 (hk9 : Int)] W fun e w' => e = .returned (.bool (hasB f r hk9)) ∧ Below W.heap.size W w') := Lib.hid (fun W => refHas_any f r hk9 W hr1 (by omega))
      have HK := Lib.hid hk9e
      clear hk9e
      cases hb : hasB f r hk9
      · rw [hb] at HH HS
        go_wp2_with fail
        refine (HH.out _).mono ?_
        rintro e w1 ⟨rfl, hb1⟩
        have B1 : Hid (Below (w.heap.size + 1) (w.alloc (.cells #[.string f, .string r] 24)) w1) := Lib.hid (hB.out.trans (hb1.mono (by have := hB.out.size; rw [size_al] at this; exact this)))
        clear hb1 c0 c1
        go_wp2_with fail
        go_roundw
        case rel => exact ⟨k + 1, by omega, rfl, Lib.hid (by rw [HS.out]; rfl), B1⟩
        case measure => simp [intOf]; omega
      · rw [hb] at HH HS
        go_wp2_with fail
        refine (HH.out _).mono ?_
        rintro e w1 ⟨rfl, hb1⟩
        have B1 : Hid (Below (w.heap.size + 1) (w.alloc (.cells #[.string f, .string r] 24)) w1) := Lib.hid (hB.out.trans (hb1.mono (by have := hB.out.size; rw [size_al] at this; exact this)))
        have RW : Hid (rwait f r h = (k : Int)) := Lib.hid (by unfold rwait; rw [HS.out]; show ((hk9 - h : Nat) : Int) = (k : Int); rw [HK.out]; omega)
        clear hb1 c0 c1
        go_wp2_with fail
        go_ret
        exact ⟨ret_int RW.out.symm, ((Below.refl _ _).alloc (Nat.le_refl _) _).trans (B1.out.mono (by omega))⟩
    · have hke : k = f.size + r.size := by omega
      have t1 : decide ((k : Int) < (f.size : Int) + (r.size : Int)) = false := decide_eq_false (by omega)
      have RW : Hid (rwait f r h = -1) := Lib.hid (by unfold rwait; rw [hN.out, hke, Nat.sub_self]; rfl)
      clear hke
      go_wp2_with fail
      go_ret
      exact ⟨ret_int RW.out.symm, ((Below.refl _ _).alloc (Nat.le_refl _) _).trans (hB.out.mono (by omega))⟩

set_option maxRecDepth 100000 in
set_option maxHeartbeats 1000000 in
theorem refCount_any (f r : ByteArray) (h : Nat) (w : World) (z1 : f.size ≤ 60) (z2 : r.size ≤ 60) (z3 : 1 ≤ r.size) (hh : h ≤ 1000000000) :
    Calls Try.prog 40 #[.agg #[.string f, .string r], .int .i64 h] w fun e w' => e = .returned (.int .i64 (countN f r h)) ∧ Below w.heap.size w w' := by
  have CC : Hid (∀ (t : ByteArray) W, (t = f ∨ ∃ m, t = f.extract 0 m) ∨ (t = r ∨ ∃ m, t = r.extract 0 m) → Calls Try.prog 83 #[.string t] W fun e w' => e = .returned (.int .i64 (ones t.data.toList)) ∧ Below W.heap.size W w') := Lib.hid (by
    intro t W ht
    have key : t.size ≤ 60 := by
      rcases ht with (rfl | ⟨m, rfl⟩) | (rfl | ⟨m, rfl⟩)
      · exact z1
      · rw [ByteArray.size_extract]; omega
      · exact z2
      · rw [ByteArray.size_extract]; omega
    refine (refOnes_any t W (by omega)).mono ?_
    rintro e wa ⟨rfl, rfl⟩
    exact ⟨rfl, Below.refl _ _⟩)
  by_cases hle : h ≤ f.size
  · have t1 : decide ((h : Int) ≤ (f.size : Int)) = true := by simp; omega
    have HC : Hid (countN f r h = ones (f.data.toList.take h)) := Lib.hid (by unfold countN; rw [if_pos hle])
    go_enter Try.func40, Try.ntmps40
    go_wp2_with fail
    refine (CC.out (f.extract 0 h) _ (.inl (.inr ⟨h, rfl⟩))).mono ?_
    rintro e w2 ⟨rfl, hb⟩
    have B2 := Lib.hid (Below.andThen ((Below.refl w.heap.size w).alloc (Nat.le_refl _) (Obj.cells #[.string f, .string r] 24)) hb (Nat.le_refl _))
    clear hb
    go_wp2_with fail
    go_ret
    exact ⟨ret_int (by rw [HC.out]), B2.out⟩
  · have t1 : decide (h ≤ f.size) = false := decide_eq_false hle
    have HC : Hid (countN f r h = ones f.data.toList + ((h - f.size) / r.size) * ones r.data.toList + ones (r.data.toList.take ((h - f.size) % r.size))) := Lib.hid (by unfold countN; rw [if_neg hle])
    obtain ⟨d, hd⟩ : ∃ d, d = h - f.size := ⟨_, rfl⟩
    have hd9 : d ≤ 1000000000 := by omega
    have e1 : IntKind.i64.wrap ((h : Int) - (f.size : Int)) = (d : Int) := by rw [i64_of _ (by omega) (by omega)]; omega
    rw [← hd] at HC
    have q1 : ((d : Int)).tdiv (r.size : Int) = ((d / r.size : Nat) : Int) := by rw [← Int.ofNat_tdiv]
    have q2 : ((d : Int)).tmod (r.size : Int) = ((d % r.size : Nat) : Int) := by rw [← Int.ofNat_tmod]
    have q0 : ¬ ((r.size : Int) = 0) := by omega
    have q00 : ¬ (r.size = 0) := by omega
    have u1 : d / r.size ≤ 1000000000 := Nat.le_trans (Nat.div_le_self _ _) hd9
    have u2 : d % r.size ≤ r.size := Nat.le_of_lt (Nat.mod_lt _ (by omega))
    have e2 : IntKind.i64.wrap (((d / r.size : Nat)) : Int) = ((d / r.size : Nat) : Int) := i64_nat _ (by omega)
    have o1 : ones f.data.toList ≤ 60 := Nat.le_trans (ones_le _) (by simpa using z1)
    have o2 : ones r.data.toList ≤ 60 := Nat.le_trans (ones_le _) (by simpa using z2)
    have o3 : ones (r.data.toList.take (d % r.size)) ≤ 60 := Nat.le_trans (ones_le _) (by rw [List.length_take]; simp; omega)
    have sr : ∀ w, (Instr.slice 9 (.string r) none (some (.int .i64 ((d % r.size : Nat) : Int))) none).run Try.prog w = .ok (.string (r.extract 0 (d % r.size))) w := fun w => by
      have := run_slice_string_h (P := Try.prog) (w := w) (t := 9) (s := r) (by rfl) .i64 ((d % r.size : Nat) : Int) (by omega) (by omega)
      rw [this, Int.toNat_natCast]
    have m1 : d / r.size * ones r.data.toList ≤ 1000000000 * 60 := Nat.mul_le_mul u1 o2
    have e3 : IntKind.i64.wrap (((d / r.size : Nat) : Int) * (ones r.data.toList : Int)) = ((d / r.size * ones r.data.toList : Nat) : Int) := by rw [← Int.natCast_mul, i64_nat _ (by omega)]
    have e4 : IntKind.i64.wrap ((ones f.data.toList : Int) + ((d / r.size * ones r.data.toList : Nat) : Int)) = ((ones f.data.toList + d / r.size * ones r.data.toList : Nat) : Int) := by rw [← Int.natCast_add, i64_nat _ (by omega)]
    have e5 : IntKind.i64.wrap (((ones f.data.toList + d / r.size * ones r.data.toList : Nat) : Int) + (ones (r.data.toList.take (d % r.size)) : Int)) = ((ones f.data.toList + d / r.size * ones r.data.toList + ones (r.data.toList.take (d % r.size)) : Nat) : Int) := by rw [← Int.natCast_add, i64_nat _ (by omega)]
    clear hd hle u1 u2 o1 o2 o3 m1
    generalize ones f.data.toList + d / r.size * ones r.data.toList + ones (r.data.toList.take (d % r.size)) = N5 at *
    generalize ones f.data.toList + d / r.size * ones r.data.toList = N4 at *
    generalize d / r.size * ones r.data.toList = N3 at *
    generalize d / r.size = dq at *
    generalize d % r.size = dm at *
    go_enter Try.func40, Try.ntmps40
    go_wp2_with fail
    obtain ⟨W1, hW1⟩ : ∃ W1, W1 = w.alloc (.cells #[.string f, .string r] 24) := ⟨_, rfl⟩
    rw [← hW1]
    have T1 : Hid (Below w.heap.size w W1) := Lib.hid (by rw [hW1]; exact (Below.refl _ _).alloc (Nat.le_refl _) _)
    have c0 : W1.cell? ⟨w.heap.size, 0, none⟩ = some (.string f) := by rw [hW1]; simp
    have c1 : W1.cell? ⟨w.heap.size, 1, none⟩ = some (.string r) := by rw [hW1]; simp
    have lt1 : w.heap.size < W1.heap.size := by rw [hW1]; simp
    clear hW1
    have BB : Below W1.heap.size W1 W1.drew := (Below.refl _ _).drew
    have SS : Hid (∀ W, Below W1.heap.size W1 W → Below W1.heap.size W1 W ∧ W.cell? ⟨w.heap.size, 0, none⟩ = some (.string f) ∧ W.cell? ⟨w.heap.size, 1, none⟩ = some (.string r)) :=
      Lib.hid (fun W h => ⟨h, below_at h lt1 c0, below_at h lt1 c1⟩)
    go_region_held3 (fun W => Below W1.heap.size W1 W ∧ W.cell? ⟨w.heap.size, 0, none⟩ = some (.string f) ∧ W.cell? ⟨w.heap.size, 1, none⟩ = some (.string r))
      (first
        | exact SS.out _ BB)
      (first
        | (go_at_call 83; refine (CC.out _ _ (by first | exact .inl (.inl rfl) | exact .inr (.inl rfl) | exact .inr (.inr ⟨_, rfl⟩))).mono ?_; rintro e wa ⟨rfl, hb⟩; replace BB := Below.andThen BB hb (Nat.le_refl _)))
    go_wp2_with fail
    go_ret
    exact ⟨ret_int (by rw [HC.out]), T1.out.trans (BB.mono T1.out.size)⟩
end Go.Proofs.Ytbhlddfjfcmncaa
