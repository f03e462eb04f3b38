import Derived.Test.YtbhlddfjfcmncaaYn
import Derived.Test.YtbhlddfjfcmncaaYg
import Derived.Maps.OwnIn
import Derived.Maps.OwnSet
import Derived.RangeFuncNested
import Derived.RangeFuncBound
import Derived.RangeFuncCalls
import Derived.RangeFuncLeaves
import Derived.Shelf.Abstract
import Derived.Shelf.RegionOpen
import Derived.WalkKit
import Derived.OwnWalkIn
import Derived.TacticsInMore
import Derived.LoopNIn
import Derived.LoopIn
import Derived.WalkSpells
import Derived.WalkLawsBesides
import Derived.BigQuiet
import Derived.Deep.QuietTactic
import Derived.Lib.Hide
import Derived.Deep.RegionHeld3
import Derived.StillTailTactics
import Derived.Lib.MakeNoZero
import Derived.Laws.CopyOwn
import Derived.Deep.RegionLaw
import Derived.Deep.LoopGhost
import Derived.Deep.CutBlock
import Derived.Deep.AppendLies
import Derived.Deep.DeepCutAuto
import Derived.Lib.IndexAny
namespace Go.Proofs.Ytbhlddfjfcmncaa
open Go.RowKit Go.Shelf
attribute [local go_sem] Oper.semAt_some
/-- the greatest wait at the hours before k of an endless tide -/
def worstN (f r : ByteArray) : Nat → Nat
  | 0 => 0
  | k + 1 => max (worstN f r k) ((nextO f r k).getD 0 - k)
theorem worstN_le (f r : ByteArray) (z1 : f.size ≤ 60) (z2 : r.size ≤ 60) : ∀ k, k ≤ 200 → worstN f r k ≤ 200
  | 0, _ => Nat.zero_le _
  | k + 1, h => by
    unfold worstN
    have h1 := worstN_le f r z1 z2 k (by omega)
    have h2 : (nextO f r k).getD 0 - k ≤ 200 := by
      cases hn : nextO f r k with
      | none => simp
      | some j => have := (findFrom_ge hn).2; simp only [Option.getD_some]; omega
    omega
set_option maxRecDepth 100000 in
set_option maxHeartbeats 1000000 in
theorem Worst_none (f r : ByteArray) (w : World) (ht : tideB (f, r) = true) (he : endB r = false) :
    Calls Try.prog 35 #[.agg #[.string f, .string r]] w fun e w' => e = .returned (.tuple #[.int .i64 0, .int .i64 4]) ∧ Below w.heap.size w w' := by
  have E := checkE_ok ht
  obtain ⟨z1, z2, z3⟩ := tideB_size ht
  have HE : Hid (∀ W, Calls Try.prog 77 #[.agg #[.string f, .string r]] W fun e w' => e = .returned (.bool false) ∧ Below W.heap.size W w') := Lib.hid (fun W => by
    have := endless_any f r W; rw [he] at this; exact this)
  clear ht he
  go_enter Try.func35, Try.ntmps35
  go_wp2_with fail
  refine (check_one (w.heap.size + 1) _ f r _ (by simp [cell_al]) (by simp [cell_al]) (size_le _ z1) (size_le _ z2)).mono ?_
  rintro e w1 ⟨rfl, hb1⟩
  have B1 : Hid (Below w.heap.size w w1) := Lib.hid ((((Below.refl _ _).alloc (Nat.le_refl _) _).alloc (by rw [size_al]; omega) _).trans (hb1.mono (by rw [size_al, size_al]; omega)))
  have b0 := below_at hb1 (b := w.heap.size) (o := 0) (v := .string f) (by rw [size_al, size_al]; omega) (by simp [cell_al])
  have b1 := below_at hb1 (b := w.heap.size) (o := 1) (v := .string r) (by rw [size_al, size_al]; omega) (by simp [cell_al])
  clear hb1
  go_wp2_with fail
  refine (HE.out _).mono ?_
  rintro e w2 ⟨rfl, hb⟩
  have B2 := Lib.hid (Below.andThen B1.out hb (Nat.le_refl _))
  clear hb b0 b1 B1
  go_wp2_with fail
  go_ret2
  exact ⟨rfl, B2.out⟩
set_option maxRecDepth 100000 in
set_option maxHeartbeats 1000000 in
theorem Worst_ok (f r : ByteArray) (w : World) (ht : tideB (f, r) = true) (he : endB r = true) :
    Calls Try.prog 35 #[.agg #[.string f, .string r]] w fun e w' => e = .returned (.tuple #[.int .i64 (worstN f r (f.size + r.size)), .int .i64 0]) ∧ Below w.heap.size w w' := by
  have E := checkE_ok ht
  obtain ⟨z1, z2, z3⟩ := tideB_size ht
  have HINF := Lib.hid (nextO_endless f r he)
  have HE : Hid (∀ W, Calls Try.prog 77 #[.agg #[.string f, .string r]] W fun e w' => e = .returned (.bool true) ∧ Below W.heap.size W w') := Lib.hid (fun W => by
    have := endless_any f r W; rw [he] at this; exact this)
  clear ht he
  go_enter Try.func35, Try.ntmps35
  go_wp2_with fail
  refine (check_one (w.heap.size + 1) _ f r _ (by simp [cell_al]) (by simp [cell_al]) (size_le _ z1) (size_le _ z2)).mono ?_
  rintro e w1 ⟨rfl, hb1⟩
  have B1 : Hid (Below w.heap.size w w1) := Lib.hid ((((Below.refl _ _).alloc (Nat.le_refl _) _).alloc (by rw [size_al]; omega) _).trans (hb1.mono (by rw [size_al, size_al]; omega)))
  have b0 := below_at hb1 (b := w.heap.size) (o := 0) (v := .string f) (by rw [size_al, size_al]; omega) (by simp [cell_al])
  have b1 := below_at hb1 (b := w.heap.size) (o := 1) (v := .string r) (by rw [size_al, size_al]; omega) (by simp [cell_al])
  have C1 : Hid (Two w1 w.heap.size f r) := Lib.hid ⟨by have := hb1.size; rw [size_al, size_al] at this; omega, b0, b1⟩
  clear hb1
  go_wp2_with fail
  refine (HE.out _).mono ?_
  rintro e w2 ⟨rfl, hb⟩
  have B2 := Lib.hid (Below.andThen B1.out hb (Nat.le_refl _))
  have C2 := Lib.hid (C1.out.below hb)
  clear hb b0 b1 B1 C1
  have b0 := C2.out.2.1
  have b1 := C2.out.2.2
  go_wp2_with fail
  clear b0 b1
  go_loopw [5, 6, 7, 8, 25] (fun x _ _ _ i wr => ∃ k : Nat, k ≤ f.size + r.size ∧ i = .int .i64 k ∧ x = .int .i64 (worstN f r k) ∧ Hid (Below w.heap.size w wr) ∧ Hid (Two wr w.heap.size f r)) (fun _ _ _ _ i _ => f.size + r.size - (intOf i).toNat)
  case atStart => exact ⟨0, Nat.zero_le _, rfl, rfl, B2, C2⟩
  case round =>
    clear B2 C2
    obtain ⟨k, hk, rfl, rfl, B, C⟩ := hrel
    have c0 := C.out.2.1
    have c1 := C.out.2.2
    by_cases hlt : k < f.size + r.size
    · have t1 : decide ((k : Int) < (f.size : Int) + (r.size : Int)) = true := decide_eq_true (by omega)
      have HN : Hid (∀ W, Calls Try.prog 74 #[.agg #[.string f, .string r], .int .i64 k] W fun e w' => e = .returned (nextV (nextO f r k)) ∧ Below W.heap.size W w') := Lib.hid (fun W => next_any f r k W z1 z2 z3 (by omega))
      have WL := worstN_le f r z1 z2 k (by omega)
      have WS : Hid (worstN f r (k + 1) = max (worstN f r k) ((nextO f r k).getD 0 - k)) := Lib.hid rfl
      generalize worstN f r k = wk at *
      cases hn : nextO f r k with
      | none => exact absurd hn (HINF.out k)
      | some j =>
        have hj := findFrom_ge hn
        rw [hn] at HN WS
        have WS2 : Hid (worstN f r (k + 1) = max wk (j - k)) := Lib.hid WS.out
        have hj1 : k ≤ j := hj.1
        have hj2 : j ≤ 1000 := by have := hj.2; omega
        have i1 : ((j : Int) - (k : Int)) = ((j - k : Nat) : Int) := by omega
        obtain ⟨d, hd⟩ : ∃ d, d = j - k := ⟨_, rfl⟩
        rw [← hd] at WS2 i1
        have hd9 : d ≤ 1000 := by omega
        have i2 : max (wk : Int) (d : Int) = ((max wk d : Nat) : Int) := by omega
        have Hi2 := Lib.hid i2
        clear hn hj hd WS i2
        unfold nextV at HN
        go_wp2_with fail
        refine (HN.out _).mono ?_
        rintro e w3 ⟨rfl, hb⟩
        replace B := Lib.hid (Below.andThen B.out hb (Nat.le_refl _))
        replace C := Lib.hid (C.out.below hb)
        clear hb c0 c1 HN
        go_wp2_with fail
        go_roundw
        case rel => exact ⟨k + 1, by omega, rfl, by rw [WS2.out, Hi2.out], B, C⟩
        case measure => simp [intOf]; omega
    · have hke : k = f.size + r.size := by omega
      have t1 : decide ((k : Int) < (f.size : Int) + (r.size : Int)) = false := decide_eq_false (by omega)
      have HW : Hid (worstN f r k = worstN f r (f.size + r.size)) := Lib.hid (by rw [hke])
      clear hke
      go_wp2_with fail
      exact bodyPost_ret (v := .tuple #[.int .i64 (worstN f r k), .int .i64 0]) (by simp [results, Try.results35, go_sem]) rfl ⟨by rw [HW.out], B.out⟩
set_option maxRecDepth 100000 in
set_option maxHeartbeats 1000000 in
theorem refEndless_any (f r : ByteArray) (w : World) (hr : r.size ≤ 1000) :
    Calls Try.prog 50 #[.agg #[.string f, .string r]] w fun e w' => e = .returned (.bool (endB r)) ∧ Below w.heap.size w w' := by
  have HO : Hid (∀ W, Calls Try.prog 83 #[.string r] W fun e w' => e = .returned (.int .i64 (ones r.data.toList)) ∧ w' = W) := Lib.hid (fun W => refOnes_any r W (by omega))
  have HE : Hid (endB r = decide (0 < (ones r.data.toList : Int))) := Lib.hid (by rw [ones_zero_end, decide_eq_decide]; omega)
  generalize ones r.data.toList = o at *
  go_enter Try.func50, Try.ntmps50
  go_wp2_with fail
  refine (HO.out _).mono ?_
  rintro e w1 ⟨rfl, rfl⟩
  go_wp2_with fail
  go_ret
  exact ⟨ret_bool (by rw [HE.out]; simp), (Below.refl _ _).alloc (Nat.le_refl _) _⟩
set_option maxRecDepth 100000 in
set_option maxHeartbeats 1000000 in
theorem refWorst_any (f r : ByteArray) (w : World) (ht : tideB (f, r) = true) (he : endB r = true) :
    Calls Try.prog 51 #[.agg #[.string f, .string r]] w fun e w' => e = .returned (.int .i64 (worstN f r (f.size + r.size))) ∧ Below w.heap.size w w' := by
  obtain ⟨z1, z2, z3⟩ := tideB_size ht
  have HINF := Lib.hid (nextO_endless f r he)
  clear ht he
  go_enter Try.func51, Try.ntmps51
  go_wp2_with fail
  go_loopw [3, 4] (fun x i wr => ∃ k : Nat, k ≤ f.size + r.size ∧ i = .int .i64 k ∧ x = .int .i64 (worstN f r k) ∧ Hid (Below w.heap.size w wr) ∧ Hid (Two wr w.heap.size f r)) (fun _ i _ => f.size + r.size - (intOf i).toNat)
  case atStart => exact ⟨0, Nat.zero_le _, rfl, rfl, Lib.hid ((Below.refl _ _).alloc (Nat.le_refl _) _), Lib.hid (Two.new w f r 24)⟩
  case round =>
    obtain ⟨k, hk, rfl, rfl, B, C⟩ := hrel
    have c0 := C.out.2.1
    have c1 := C.out.2.2
    by_cases hlt : k < f.size + r.size
    · have t1 : decide ((k : Int) < (f.size : Int) + (r.size : Int)) = true := decide_eq_true (by omega)
      have WL := worstN_le f r z1 z2 k (by omega)
      have WS : Hid (worstN f r (k + 1) = max (worstN f r k) ((nextO f r k).getD 0 - k)) := Lib.hid rfl
      generalize worstN f r k = wk at *
      cases hn : nextO f r k with
      | none => exact absurd hn (HINF.out k)
      | some j =>
        have hj := findFrom_ge hn
        have HW : Hid (∀ W, Calls Try.prog 38 #[.agg #[.string f, .string r], .int .i64 k] W fun e w' => e = .returned (.int .i64 ((j - k : Nat) : Int)) ∧ Below W.heap.size W w') := Lib.hid (fun W => by
          have := refWait_any f r k W z1 z2 z3 (by omega)
          rw [rwait_some hn] at this; exact this)
        rw [hn] at WS
        have WS2 : Hid (worstN f r (k + 1) = max wk (j - k)) := Lib.hid WS.out
        have hj2 : j ≤ 1000 := by have := hj.2; omega
        obtain ⟨d, hd⟩ : ∃ d, d = j - k := ⟨_, rfl⟩
        rw [← hd] at WS2 HW
        have hd9 : d ≤ 1000 := by omega
        have i2 : max (wk : Int) (d : Int) = ((max wk d : Nat) : Int) := by omega
        have Hi2 := Lib.hid i2
        clear hn hj hd WS i2
        go_wp2_with fail
        refine (HW.out _).mono ?_
        rintro e w3 ⟨rfl, hb⟩
        replace B := Lib.hid (Below.andThen B.out hb (Nat.le_refl _))
        replace C := Lib.hid (C.out.below hb)
        clear hb c0 c1 HW
        go_wp2_with fail
        go_roundw
        case rel => exact ⟨k + 1, by omega, rfl, by rw [WS2.out, Hi2.out], B, C⟩
        case measure => simp [intOf]; omega
    · have hke : k = f.size + r.size := by omega
      have t1 : decide ((k : Int) < (f.size : Int) + (r.size : Int)) = false := decide_eq_false (by omega)
      have HW : Hid (worstN f r k = worstN f r (f.size + r.size)) := Lib.hid (by rw [hke])
      clear hke
      go_wp2_with fail
      exact bodyPost_ret (v := .int .i64 (worstN f r k)) (by simp [results, Try.results51, go_sem]) rfl ⟨by rw [HW.out], B.out⟩
end Go.Proofs.Ytbhlddfjfcmncaa
