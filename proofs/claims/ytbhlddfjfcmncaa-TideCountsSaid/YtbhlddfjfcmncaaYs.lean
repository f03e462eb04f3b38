import Derived.Test.YtbhlddfjfcmncaaYr
import Derived.Maps.OwnIn
import Derived.Maps.OwnSet
import Derived.RangeFuncNested
import Derived.RangeFuncBound
import Derived.RangeFuncCalls
import Derived.RangeFuncLeaves
import Derived.Shelf.Abstract
import Derived.Shelf.RegionOpen
import Derived.WalkKit
import Derived.OwnWalkIn
import Derived.TacticsInMore
import Derived.LoopNIn
import Derived.LoopIn
import Derived.WalkSpells
import Derived.WalkLawsBesides
import Derived.BigQuiet
import Derived.Deep.QuietTactic
import Derived.Lib.Hide
import Derived.Deep.RegionHeld3
import Derived.StillTailTactics
import Derived.Lib.MakeNoZero
import Derived.Laws.CopyOwn
import Derived.Deep.RegionLaw
import Derived.Deep.LoopGhost
import Derived.Deep.CutBlock
import Derived.Deep.AppendLies
import Derived.Deep.DeepCutAuto
import Derived.Lib.IndexAny
namespace Go.Proofs.Ytbhlddfjfcmncaa
open Go.RowKit Go.Shelf
attribute [local go_sem] Oper.semAt_some
/-- from, length and run after the hours before i -/
def lstep (X : Nat → Bool) : Nat → Nat × Nat × Nat
  | 0 => (0, 0, 0)
  | i + 1 => if X i then (if (lstep X i).2.1 < (lstep X i).2.2 + 1 then (i - (lstep X i).2.2, (lstep X i).2.2 + 1, (lstep X i).2.2 + 1) else ((lstep X i).1, (lstep X i).2.1, (lstep X i).2.2 + 1)) else ((lstep X i).1, (lstep X i).2.1, 0)
theorem lstep_le (X : Nat → Bool) : ∀ i, (lstep X i).1 ≤ i ∧ (lstep X i).2.1 ≤ i ∧ (lstep X i).2.2 ≤ i ∧ (lstep X i).2.2 ≤ (lstep X i).2.1
  | 0 => ⟨Nat.le_refl _, Nat.le_refl _, Nat.le_refl _, Nat.le_refl _⟩
  | i + 1 => by
    have := lstep_le X i
    unfold lstep
    split
    · split <;> (simp only; omega)
    · simp only; omega
theorem lstep_len_mono (X : Nat → Bool) : ∀ i j, i ≤ j → (lstep X i).2.1 ≤ (lstep X j).2.1 := by
  intro i j h
  induction h with
  | refl => exact Nat.le_refl _
  | step h ih =>
    rename_i m
    refine Nat.le_trans ih ?_
    rw [lstep]
    split
    · split <;> (simp only; omega)
    · simp only; omega
theorem lstep_run (X : Nat → Bool) (i : Nat) : (lstep X (i + 1)).2.2 = if X i then (lstep X i).2.2 + 1 else 0 := by
  rw [lstep]; split
  · split <;> rfl
  · rfl
/-- behind the second round nothing is longer -/
theorem lstep_stays {X : Nat → Bool} {F R z : Nat} (hp : Per X F R) (hz1 : F ≤ z) (hz2 : z < F + R) (hz : X z = false) :
    ∀ n, (lstep X (F + 2 * R + n)).1 = (lstep X (F + 2 * R)).1 ∧ (lstep X (F + 2 * R + n)).2.1 = (lstep X (F + 2 * R)).2.1 := by
  have hrun : ∀ j, (lstep X (z + 1 + j + R)).2.2 = (lstep X (z + 1 + j)).2.2 := by
    intro j
    induction j with
    | zero =>
      have a : (lstep X (z + 1)).2.2 = 0 := by rw [lstep_run, hz]; rfl
      have b : (lstep X (z + R + 1)).2.2 = 0 := by rw [lstep_run, hp z hz1, hz]; rfl
      rw [Nat.add_zero, a, show z + 1 + R = z + R + 1 by omega, b]
    | succ j ih =>
      rw [show z + 1 + (j + 1) + R = (z + 1 + j + R) + 1 by omega, lstep_run, ih, show z + 1 + (j + 1) = (z + 1 + j) + 1 by omega, lstep_run, hp (z + 1 + j) (by omega)]
  intro n
  induction n with
  | zero => exact ⟨rfl, rfl⟩
  | succ n ih =>
    have h1 := hrun (F + R + n - z)
    rw [show z + 1 + (F + R + n - z) + R = F + 2 * R + n + 1 by omega, show z + 1 + (F + R + n - z) = F + R + n + 1 by omega] at h1
    have h2 := (lstep_le X (F + R + n + 1)).2.2.2
    have h3 : ¬ (lstep X (F + 2 * R + n)).2.1 < (lstep X (F + 2 * R + n + 1)).2.2 := by
      rw [h1]
      by_cases hR : R = 0
      · omega
      · have := lstep_len_mono X (F + R + n + 1) (F + 2 * R + n) (by omega)
        omega
    rw [lstep_run] at h3
    rw [show F + 2 * R + (n + 1) = (F + 2 * R + n) + 1 by omega, lstep]
    cases hX : X (F + 2 * R + n)
    · simp only [Bool.false_eq_true, if_false]; exact ih
    · rw [hX, if_pos rfl] at h3
      rw [if_pos rfl, if_neg h3]; exact ih
def has0 (r : ByteArray) : Bool := decide (0 ≤ Lib.indexByte r.data.toList 48)
def longV (s : Nat × Nat × Nat) : Value := if s.2.1 = 0 then .tuple #[.int .i64 0, .int .i64 0, .int .i64 4] else .tuple #[.int .i64 s.1, .int .i64 s.2.1, .int .i64 0]
set_option maxRecDepth 100000 in
set_option maxHeartbeats 1000000 in
theorem Longest_ok (f r : ByteArray) (w : World) (ht : tideB (f, r) = true) :
    Calls Try.prog 34 #[.agg #[.string f, .string r]] w fun e w' => e = .returned (if has0 r then longV (lstep (hasB f r) (f.size + 2 * r.size)) else .tuple #[.int .i64 0, .int .i64 0, .int .i64 4]) ∧ Below w.heap.size w w' := by
  have E := checkE_ok ht
  obtain ⟨z1, z2, z3⟩ := tideB_size ht
  clear ht
  go_enter Try.func34, Try.ntmps34
  go_wp2_with fail
  refine (check_one (w.heap.size + 1) _ f r _ (by simp [cell_al]) (by simp [cell_al]) (size_le _ z1) (size_le _ z2)).mono ?_
  rintro e w1 ⟨rfl, hb1⟩
  have B1 : Hid (Below w.heap.size w w1) := Lib.hid ((((Below.refl _ _).alloc (Nat.le_refl _) _).alloc (by rw [size_al]; omega) _).trans (hb1.mono (by rw [size_al, size_al]; omega)))
  have b0 := below_at hb1 (b := w.heap.size) (o := 0) (v := .string f) (by rw [size_al, size_al]; omega) (by simp [cell_al])
  have b1 := below_at hb1 (b := w.heap.size) (o := 1) (v := .string r) (by rw [size_al, size_al]; omega) (by simp [cell_al])
  have C1 : Hid (Two w1 w.heap.size f r) := Lib.hid ⟨by have := hb1.size; rw [size_al, size_al] at this; omega, b0, b1⟩
  have HS : Hid (∀ W, Calls Try.prog 78 #[.string r, .string { data := #[48] }] W fun e w' => e = .returned (.bool (has0 r)) ∧ w' = W) := Lib.hid (fun W => Try.strings_Contains_one r 48 W)
  clear hb1
  go_wp2_with fail
  refine (HS.out _).mono ?_
  rintro e w2 ⟨rfl, rfl⟩
  clear HS
  cases hh : has0 r
  · go_wp2_with fail
    all_goals exact bodyPost_ret (v := .tuple #[.int .i64 0, .int .i64 0, .int .i64 4]) (by simp [results, Try.results34, go_sem]) rfl ⟨rfl, B1.out⟩
  · go_wp2_with fail
    clear b0 b1
    go_loopw [2, 3, 5, 6, 25] (fun x y u _ i wr => ∃ k : Nat, k ≤ f.size + 2 * r.size ∧ i = .int .i64 k ∧ x = .int .i64 (lstep (hasB f r) k).1 ∧ y = .int .i64 (lstep (hasB f r) k).2.1 ∧ u = .int .i64 (lstep (hasB f r) k).2.2 ∧ Hid (Below w.heap.size w wr) ∧ Hid (Two wr w.heap.size f r)) (fun _ _ _ _ i _ => f.size + 2 * r.size - (intOf i).toNat)
    case atStart => exact ⟨0, Nat.zero_le _, rfl, rfl, rfl, rfl, B1, C1⟩
    case round =>
      clear B1 C1
      obtain ⟨k, hk, rfl, rfl, rfl, rfl, B, C⟩ := hrel
      have c0 := C.out.2.1
      have c1 := C.out.2.2
      obtain ⟨l1, l2, l3, l4⟩ := lstep_le (hasB f r) k
      by_cases hlt : k < f.size + 2 * r.size
      · have t1 : decide ((k : Int) < (f.size : Int) + 2 * (r.size : Int)) = true := decide_eq_true (by omega)
        have HH : Hid (∀ W, Calls Try.prog 58 #[.agg #[.string f, .string r], .int .i64 k] W fun e w' => e = .returned (.bool (hasB f r k)) ∧ Below W.heap.size W w') := Lib.hid (fun W => has_any f r k W z3 (by omega))
        have LS : Hid (lstep (hasB f r) (k + 1) = if hasB f r k then (if (lstep (hasB f r) k).2.1 < (lstep (hasB f r) k).2.2 + 1 then (k - (lstep (hasB f r) k).2.2, (lstep (hasB f r) k).2.2 + 1, (lstep (hasB f r) k).2.2 + 1) else ((lstep (hasB f r) k).1, (lstep (hasB f r) k).2.1, (lstep (hasB f r) k).2.2 + 1)) else ((lstep (hasB f r) k).1, (lstep (hasB f r) k).2.1, 0)) := Lib.hid (by rw [lstep])
        generalize (lstep (hasB f r) k).1 = fr at *
        generalize (lstep (hasB f r) k).2.1 = ln at *
        generalize (lstep (hasB f r) k).2.2 = rn at *
        cases hb9 : hasB f r k
        · rw [hb9] at HH LS
          go_wp2_with fail
          refine (HH.out _).mono ?_
          rintro e w3 ⟨rfl, hb⟩
          replace B := Lib.hid (Below.andThen B.out hb (Nat.le_refl _))
          replace C := Lib.hid (C.out.below hb)
          clear hb c0 c1 HH
          go_wp2_with fail
          go_roundw
          case rel => exact ⟨k + 1, by omega, rfl, by rw [LS.out]; rfl, by rw [LS.out]; rfl, by rw [LS.out]; rfl, B, C⟩
          case measure => simp [intOf]; omega
        · rw [hb9] at HH LS
          by_cases hgt : ln < rn + 1
          · have t5 : decide ((ln : Int) < (rn : Int) + 1) = true := decide_eq_true (by omega)
            have LS2 : Hid (lstep (hasB f r) (k + 1) = (k - rn, rn + 1, rn + 1)) := Lib.hid (by rw [LS.out, if_pos rfl, if_pos hgt])
            have i3 : Hid (((k : Int) + 1 - ((rn : Int) + 1)) = ((k - rn : Nat) : Int)) := Lib.hid (by omega)
            have i4 : Hid (((k : Int) - (rn : Int)) = ((k - rn : Nat) : Int)) := Lib.hid (by omega)
            clear LS
            go_wp2_with fail
            refine (HH.out _).mono ?_
            rintro e w3 ⟨rfl, hb⟩
            replace B := Lib.hid (Below.andThen B.out hb (Nat.le_refl _))
            replace C := Lib.hid (C.out.below hb)
            clear hb c0 c1 HH
            go_wp2_with fail
            go_roundw
            case rel => exact ⟨k + 1, by omega, rfl, by rw [LS2.out, i3.out], by rw [LS2.out]; rfl, by rw [LS2.out]; rfl, B, C⟩
            case measure => simp [intOf]; omega
          · have t5 : decide ((ln : Int) < (rn : Int) + 1) = false := decide_eq_false (by omega)
            have LS2 : Hid (lstep (hasB f r) (k + 1) = (fr, ln, rn + 1)) := Lib.hid (by rw [LS.out, if_pos rfl, if_neg hgt])
            clear LS
            go_wp2_with fail
            refine (HH.out _).mono ?_
            rintro e w3 ⟨rfl, hb⟩
            replace B := Lib.hid (Below.andThen B.out hb (Nat.le_refl _))
            replace C := Lib.hid (C.out.below hb)
            clear hb c0 c1 HH
            go_wp2_with fail
            go_roundw
            case rel => exact ⟨k + 1, by omega, rfl, by rw [LS2.out], by rw [LS2.out], by rw [LS2.out]; rfl, B, C⟩
            case measure => simp [intOf]; omega
      · have hke : k = f.size + 2 * r.size := by omega
        have t1 : decide ((k : Int) < (f.size : Int) + 2 * (r.size : Int)) = false := decide_eq_false (by omega)
        have HW : Hid (lstep (hasB f r) k = lstep (hasB f r) (f.size + 2 * r.size)) := Lib.hid (by rw [hke])
        clear hke
        have HL : Hid (longV (lstep (hasB f r) (f.size + 2 * r.size)) = longV (lstep (hasB f r) k)) := Lib.hid (by rw [HW.out])
        by_cases h0 : (lstep (hasB f r) k).2.1 = 0
        · have t7 : (((lstep (hasB f r) k).2.1 : Int) == 0) = true := by rw [h0]; rfl
          have HV : Hid (longV (lstep (hasB f r) k) = .tuple #[.int .i64 0, .int .i64 0, .int .i64 4]) := Lib.hid (by unfold longV; rw [if_pos h0])
          clear h0
          go_wp2_with fail
          exact bodyPost_ret (v := .tuple #[.int .i64 0, .int .i64 0, .int .i64 4]) (by simp [results, Try.results34, go_sem]) rfl ⟨by rw [HL.out, HV.out], B.out⟩
        · have t7 : (((lstep (hasB f r) k).2.1 : Int) == 0) = false := beq_eq_false_iff_ne.2 (by omega)
          have HV : Hid (longV (lstep (hasB f r) k) = .tuple #[.int .i64 (lstep (hasB f r) k).1, .int .i64 (lstep (hasB f r) k).2.1, .int .i64 0]) := Lib.hid (by unfold longV; rw [if_neg h0])
          go_wp2_with fail
          exact bodyPost_ret (v := .tuple #[.int .i64 (lstep (hasB f r) k).1, .int .i64 (lstep (hasB f r) k).2.1, .int .i64 0]) (by simp [results, Try.results34, go_sem]) rfl ⟨by rw [HL.out, HV.out], B.out⟩
set_option maxRecDepth 100000 in
set_option maxHeartbeats 1000000 in
theorem refLongest_any (f r : ByteArray) (w : World) (z1 : f.size ≤ 60) (z2 : r.size ≤ 60) (z3 : 1 ≤ r.size) :
    Calls Try.prog 49 #[.agg #[.string f, .string r]] w fun e w' => e = .returned (.tuple #[.int .i64 (lstep (hasB f r) (f.size + 3 * r.size)).1, .int .i64 (lstep (hasB f r) (f.size + 3 * r.size)).2.1, .bool (decide (0 < (lstep (hasB f r) (f.size + 3 * r.size)).2.1) && decide (ones r.data.toList < r.size))]) ∧ Below w.heap.size w w' := by
  have o1 : ones r.data.toList ≤ r.size := Nat.le_trans (ones_le _) (by simp)
  go_enter Try.func49, Try.ntmps49
  go_wp2_with fail
  go_loopw [5, 6, 7, 8] (fun x y u i wr => ∃ k : Nat, k ≤ f.size + 3 * r.size ∧ i = .int .i64 k ∧ x = .int .i64 (lstep (hasB f r) k).1 ∧ y = .int .i64 (lstep (hasB f r) k).2.1 ∧ u = .int .i64 (lstep (hasB f r) k).2.2 ∧ Hid (Below w.heap.size w wr) ∧ Hid (Two wr w.heap.size f r)) (fun _ _ _ i _ => f.size + 3 * r.size - (intOf i).toNat)
  case atStart => exact ⟨0, Nat.zero_le _, rfl, rfl, rfl, rfl, Lib.hid ((Below.refl _ _).alloc (Nat.le_refl _) _), Lib.hid (Two.new w f r 24)⟩
  case round =>
    obtain ⟨k, hk, rfl, rfl, rfl, rfl, B, C⟩ := hrel
    have c0 := C.out.2.1
    have c1 := C.out.2.2
    obtain ⟨l1, l2, l3, l4⟩ := lstep_le (hasB f r) k
    by_cases hlt : k < f.size + 3 * r.size
    · have t1 : decide ((k : Int) < (f.size : Int) + 3 * (r.size : Int)) = true := decide_eq_true (by omega)
      have HH : Hid (∀ W, Calls Try.prog 39 #[.agg #[.string f, .string r], .int .i64 k] W fun e w' => e = .returned (.bool (hasB f r k)) ∧ Below W.heap.size W w') := Lib.hid (fun W => refHas_any f r k W z3 (by omega))
      have LS : Hid (lstep (hasB f r) (k + 1) = if hasB f r k then (if (lstep (hasB f r) k).2.1 < (lstep (hasB f r) k).2.2 + 1 then (k - (lstep (hasB f r) k).2.2, (lstep (hasB f r) k).2.2 + 1, (lstep (hasB f r) k).2.2 + 1) else ((lstep (hasB f r) k).1, (lstep (hasB f r) k).2.1, (lstep (hasB f r) k).2.2 + 1)) else ((lstep (hasB f r) k).1, (lstep (hasB f r) k).2.1, 0)) := Lib.hid (by rw [lstep])
      generalize (lstep (hasB f r) k).1 = fr at *
      generalize (lstep (hasB f r) k).2.1 = ln at *
      generalize (lstep (hasB f r) k).2.2 = rn at *
      cases hb9 : hasB f r k
      · rw [hb9] at HH LS
        go_wp2_with fail
        refine (HH.out _).mono ?_
        rintro e w3 ⟨rfl, hb⟩
        replace B := Lib.hid (Below.andThen B.out hb (Nat.le_refl _))
        replace C := Lib.hid (C.out.below hb)
        clear hb c0 c1 HH
        go_wp2_with fail
        go_roundw
        case rel => exact ⟨k + 1, by omega, rfl, by rw [LS.out]; rfl, by rw [LS.out]; rfl, by rw [LS.out]; rfl, B, C⟩
        case measure => simp [intOf]; omega
      · rw [hb9] at HH LS
        by_cases hgt : ln < rn + 1
        · have t5 : decide ((ln : Int) < (rn : Int) + 1) = true := decide_eq_true (by omega)
          have LS2 : Hid (lstep (hasB f r) (k + 1) = (k - rn, rn + 1, rn + 1)) := Lib.hid (by rw [LS.out, if_pos rfl, if_pos hgt])
          have i3 : Hid (((k : Int) + 1 - ((rn : Int) + 1)) = ((k - rn : Nat) : Int)) := Lib.hid (by omega)
          clear LS
          go_wp2_with fail
          refine (HH.out _).mono ?_
          rintro e w3 ⟨rfl, hb⟩
          replace B := Lib.hid (Below.andThen B.out hb (Nat.le_refl _))
          replace C := Lib.hid (C.out.below hb)
          clear hb c0 c1 HH
          go_wp2_with fail
          go_roundw
          case rel => exact ⟨k + 1, by omega, rfl, by rw [LS2.out, i3.out], by rw [LS2.out]; rfl, by rw [LS2.out]; rfl, B, C⟩
          case measure => simp [intOf]; omega
        · have t5 : decide ((ln : Int) < (rn : Int) + 1) = false := decide_eq_false (by omega)
          have LS2 : Hid (lstep (hasB f r) (k + 1) = (fr, ln, rn + 1)) := Lib.hid (by rw [LS.out, if_pos rfl, if_neg hgt])
          clear LS
          go_wp2_with fail
          refine (HH.out _).mono ?_
          rintro e w3 ⟨rfl, hb⟩
          replace B := Lib.hid (Below.andThen B.out hb (Nat.le_refl _))
          replace C := Lib.hid (C.out.below hb)
          clear hb c0 c1 HH
          go_wp2_with fail
          go_roundw
          case rel => exact ⟨k + 1, by omega, rfl, by rw [LS2.out], by rw [LS2.out], by rw [LS2.out]; rfl, B, C⟩
          case measure => simp [intOf]; omega
    · have hke : k = f.size + 3 * r.size := by omega
      have t1 : decide ((k : Int) < (f.size : Int) + 3 * (r.size : Int)) = false := decide_eq_false (by omega)
      obtain ⟨on, hon⟩ : ∃ on, on = ones r.data.toList := ⟨_, rfl⟩
      have HO : Hid (∀ W, Calls Try.prog 83 #[.string r] W fun e w' => e = .returned (.int .i64 on) ∧ Below W.heap.size W w') := Lib.hid (fun W => (refOnes_any r W (by omega)).mono (fun e w' ⟨h1, h2⟩ => ⟨by rw [hon]; exact h1, by rw [h2]; exact Below.refl _ _⟩))
      have HE : Hid (Ending.returned (.tuple #[.int .i64 (lstep (hasB f r) k).1, .int .i64 (lstep (hasB f r) k).2.1, .bool (decide (0 < (lstep (hasB f r) k).2.1) && decide (on < r.size))]) = Ending.returned (.tuple #[.int .i64 (lstep (hasB f r) (f.size + 3 * r.size)).1, .int .i64 (lstep (hasB f r) (f.size + 3 * r.size)).2.1, .bool (decide (0 < (lstep (hasB f r) (f.size + 3 * r.size)).2.1) && decide (ones r.data.toList < r.size))])) := Lib.hid (by rw [hke, hon])
      have on9 : on ≤ r.size := by rw [hon]; exact o1
      clear hke hon o1
      generalize (lstep (hasB f r) k).1 = fr at *
      generalize (lstep (hasB f r) k).2.1 = ln at *
      generalize (lstep (hasB f r) k).2.2 = rn at *
      by_cases h0 : 0 < ln
      · have t6 : decide (0 < ln) = true := decide_eq_true h0
        have HE2 := Lib.hid HE.out
        rw [t6] at HE2
        clear HE
        go_wp2_with fail
        have k0 := Kl.cell C.out.1 C.out.2.1
        have k1 := Kl.cell C.out.1 C.out.2.2
        refine wp_region_below (by kernel_rfl) (by kernel_rfl) ?_
        repeat (go_big_quiet_step (exact Kl.call (HO.out _)))
        refine wpQuiet_nil ?_
        rintro _ ⟨wq, rfl⟩
        have T9 := Lib.hid (Below.andThen B.out wq.h (Nat.le_refl _))
        go_wp2_with fail
        exact bodyPost_ret (v := .tuple #[.int .i64 fr, .int .i64 ln, .bool (decide (on < r.size))]) (by simp [results, Try.results49, go_sem]) rfl ⟨by rw [← HE2.out]; simp, T9.out⟩
      · have t6 : decide (0 < ln) = false := decide_eq_false h0
        have HE2 := Lib.hid HE.out
        rw [t6] at HE2
        clear HE
        go_wp2_with fail
        have k0 := Kl.cell C.out.1 C.out.2.1
        have k1 := Kl.cell C.out.1 C.out.2.2
        refine wp_region_below (by kernel_rfl) (by kernel_rfl) ?_
        repeat (go_big_quiet_step (exact Kl.call (HO.out _)))
        refine wpQuiet_nil ?_
        rintro _ ⟨wq, rfl⟩
        have T9 := Lib.hid (Below.andThen B.out wq.h (Nat.le_refl _))
        go_wp2_with fail
        exact bodyPost_ret (v := .tuple #[.int .i64 fr, .int .i64 ln, .bool false]) (by simp [results, Try.results49, go_sem]) rfl ⟨by rw [← HE2.out]; simp, T9.out⟩
end Go.Proofs.Ytbhlddfjfcmncaa
