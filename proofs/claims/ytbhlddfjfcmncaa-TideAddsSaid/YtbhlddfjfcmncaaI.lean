import Derived.Test.YtbhlddfjfcmncaaH
import Derived.Test.YtbhlddfjfcmncaaShelf
import Derived.WalkKit
import Derived.WalkSpells
import Derived.WalkLawsBesides
import Derived.BigQuiet
import Derived.Deep.QuietTactic
import Derived.Lib.Hide
import Derived.StillTailTactics
import Derived.Lib.SlBytesRow
import Derived.Deep.RegionHeld3
import Derived.Deep.LoopGhost
namespace Go.Proofs.Ytbhlddfjfcmncaa
open Go.RowKit
def slopeL (p q r : Nat) : List UInt8 := (List.range q).map fun i => markU (((p * i + r) / q) != ((p * (i + 1) + r) / q))
theorem slopeL_length (p q r : Nat) : (slopeL p q r).length = q := by unfold slopeL; simp
def slopeF (p q r : Nat) : List UInt8 := formF (slopeL p q r) 0
def slopeR (p q r : Nat) : List UInt8 := formR (slopeL p q r) 0

set_option maxRecDepth 100000 in
set_option maxHeartbeats 1000000 in
theorem Slope_err (p q r : Int) (w : World) (h : ¬ (1 ≤ q ∧ q ≤ 60 ∧ 0 ≤ p ∧ p ≤ q ∧ 0 ≤ r ∧ r < q)) :
    Calls Try.prog 54 #[.int .i64 p, .int .i64 q, .int .i64 r] w fun e w' => e = .returned (errV 1) ∧ Below w.heap.size w w' := by
  have H : q < 1 ∨ (¬ q < 1 ∧ 60 < q) ∨ (¬ q < 1 ∧ ¬ 60 < q ∧ p < 0) ∨ (¬ q < 1 ∧ ¬ 60 < q ∧ ¬ p < 0 ∧ q < p) ∨ (¬ q < 1 ∧ ¬ 60 < q ∧ ¬ p < 0 ∧ ¬ q < p ∧ r < 0) ∨ (¬ q < 1 ∧ ¬ 60 < q ∧ ¬ p < 0 ∧ ¬ q < p ∧ ¬ r < 0 ∧ q ≤ r) := by omega
  clear h
  rcases H with h1 | ⟨h1, h2⟩ | ⟨h1, h2, h3⟩ | ⟨h1, h2, h3, h4⟩ | ⟨h1, h2, h3, h4, h5⟩ | ⟨h1, h2, h3, h4, h5, h6⟩
  all_goals
    go_enter Try.func54, Try.ntmps54
    go_wp2_with fail
    exact bodyPost_ret (v := errV 1) (by simp [results, Try.results54, go_sem]; rfl) rfl ⟨rfl, (Below.refl _ _).alloc (Nat.le_refl _) _⟩

theorem i64_nat (n : Nat) (h : n ≤ 4611686018427387903) : IntKind.i64.wrap (n : Int) = (n : Int) := i64_of _ (by omega) (by omega)
theorem nat_neq (a b : Nat) : (((a : Nat) : Int) != ((b : Nat) : Int)) = (a != b) := by
  rw [Bool.eq_iff_iff, bne_iff_ne, bne_iff_ne]; omega

set_option maxRecDepth 100000 in
set_option maxHeartbeats 1000000 in
theorem Slope_ok (p q r : Nat) (w : World) (hq1 : 1 ≤ q) (hq2 : q ≤ 60) (hp : p ≤ q) (hr : r < q) :
    Calls Try.prog 54 #[.int .i64 p, .int .i64 q, .int .i64 r] w fun e w' => e = .returned (.tuple #[.agg #[.string (toS (slopeF p q r)), .string (toS (slopeR p q r))], .int .i64 0]) ∧ Below w.heap.size w w' := by
  have hmk := make_bytes q (by omega)
  have t1 : decide ((q : Int) < 1) = false := decide_eq_false (by omega)
  have t2 : decide (60 < (q : Int)) = false := decide_eq_false (by omega)
  have t3 : decide ((p : Int) < 0) = false := decide_eq_false (by omega)
  have t4 : decide (q < p) = false := decide_eq_false (by omega)
  have t5 : decide ((r : Int) < 0) = false := decide_eq_false (by omega)
  have t6 : decide (q ≤ r) = false := decide_eq_false (by omega)
  go_enter Try.func54, Try.ntmps54
  go_wp2_with fail
  clear hmk t1 t2 t3 t4 t5 t6
  obtain ⟨W0, hW0⟩ : ∃ W0, W0 = w.alloc (.cells #[.string { data := #[] }, .string { data := #[] }] 23) := ⟨_, rfl⟩
  have hsz : Hid (W0.heap.size = w.heap.size + 1) := Lib.hid (by rw [hW0, size_al])
  have B0 : Hid (Below w.heap.size w W0) := Lib.hid (by rw [hW0]; exact (Below.refl _ _).alloc (Nat.le_refl _) _)
  have Z : Hid (∀ W, Below (w.heap.size + 1) W0 W → W.cell? ⟨w.heap.size, 0, none⟩ = some (.string { data := #[] }) ∧ W.cell? ⟨w.heap.size, 1, none⟩ = some (.string { data := #[] }) ∧ W.frozen? ⟨w.heap.size, 0, none⟩ = false ∧ W.frozen? ⟨w.heap.size, 1, none⟩ = false) := Lib.hid (fun W h => by
    refine ⟨below_at h (by omega) ?_, below_at h (by omega) ?_, (h.frozen (p := ⟨w.heap.size, 0, none⟩) (by show w.heap.size < w.heap.size + 1; omega)).trans ?_, (h.frozen (p := ⟨w.heap.size, 1, none⟩) (by show w.heap.size < w.heap.size + 1; omega)).trans ?_⟩ <;> (rw [hW0]; simp [cell_al, frozen_al]))
  rw [← hW0]
  clear hW0
  go_loopw [9, 39] (fun _ i wr => ∃ k : Nat, k ≤ q ∧ i = .int .i64 k ∧ Hid (Row wr (w.heap.size + 1) 5 (fillTo q k (.int .u8 0) fun i => encB (markU (((p * i + r) / q) != ((p * (i + 1) + r) / q))))) ∧ Hid (Below (w.heap.size + 1) W0 wr)) (fun _ i _ => q - (intOf i).toNat)
  case atStart =>
    refine ⟨0, Nat.zero_le _, rfl, Lib.hid ?_, Lib.hid ?_⟩
    · rw [fillTo_zero]
      have := Row.new W0 5 (List.replicate q (.int .u8 0))
      rw [hsz.out] at this; exact this
    · exact (Below.refl _ _).alloc (by rw [hsz.out]; omega) _
  case round =>
    obtain ⟨k, hk, rfl, hrow, hbel⟩ := hrel
    by_cases hlt : k < q
    · have m1 : p * k ≤ 60 * 60 := Nat.mul_le_mul (by omega) (by omega)
      have m2 : p * (k + 1) ≤ 60 * 60 := Nat.mul_le_mul (by omega) (by omega)
      have e1 : IntKind.i64.wrap ((p : Int) * (k : Int)) = ((p * k : Nat) : Int) := by rw [← Int.natCast_mul, i64_of _ (by omega) (by omega)]
      have e2 : IntKind.i64.wrap (((p * k : Nat) : Int) + (r : Int)) = ((p * k + r : Nat) : Int) := by rw [i64_of _ (by omega) (by omega)]; omega
      have e3 : IntKind.i64.wrap ((k : Int) + 1) = ((k + 1 : Nat) : Int) := by rw [i64_of _ (by omega) (by omega)]; omega
      have e4 : IntKind.i64.wrap ((p : Int) * ((k + 1 : Nat) : Int)) = ((p * (k + 1) : Nat) : Int) := by rw [← Int.natCast_mul, i64_of _ (by omega) (by omega)]
      have e5 : IntKind.i64.wrap (((p * (k + 1) : Nat) : Int) + (r : Int)) = ((p * (k + 1) + r : Nat) : Int) := by rw [i64_of _ (by omega) (by omega)]; omega
      have d1 : (((p * k + r : Nat) : Int)).tdiv (q : Int) = (((p * k + r) / q : Nat) : Int) := by rw [← Int.ofNat_tdiv]
      have d2 : (((p * (k + 1) + r : Nat) : Int)).tdiv (q : Int) = (((p * (k + 1) + r) / q : Nat) : Int) := by rw [← Int.ofNat_tdiv]
      have q0 : ¬ ((q : Int) = 0) := by omega
      have q00 : ¬ (q = 0) := by omega
      have u1 : (p * k + r) / q ≤ 10000 := Nat.le_trans (Nat.div_le_self _ _) (by omega)
      have u2 : (p * (k + 1) + r) / q ≤ 10000 := Nat.le_trans (Nat.div_le_self _ _) (by omega)
      have e6 : IntKind.i64.wrap ((((p * k + r) / q : Nat)) : Int) = (((p * k + r) / q : Nat) : Int) := i64_nat _ (by omega)
      have e7 : IntKind.i64.wrap ((((p * (k + 1) + r) / q : Nat)) : Int) = (((p * (k + 1) + r) / q : Nat) : Int) := i64_nat _ (by omega)
      have NE := Lib.hid (nat_neq ((p * k + r) / q) ((p * (k + 1) + r) / q))
      have LT := Lib.hid hrow.out.lt
      obtain ⟨v0, hv0⟩ := fillTo_get q k k (.int .u8 0) (fun i => encB (markU (((p * i + r) / q) != ((p * (i + 1) + r) / q)))) hlt
      have cc1 : wr.cell? ⟨w.heap.size + 1, k, none⟩ = some v0 := by rw [hrow.out.cell, hv0]
      have ff1 : wr.frozen? ⟨w.heap.size + 1, k, none⟩ = false := hrow.out.frozen k
      have R2 := Lib.hid (hrow.out.set k (encB (markU (((p * k + r) / q) != ((p * (k + 1) + r) / q)))))
      rw [fillTo_set q k (.int .u8 0) (fun i => encB (markU (((p * i + r) / q) != ((p * (i + 1) + r) / q))))] at R2
      clear hv0
      generalize (p * k + r) / q = A1 at *
      generalize (p * (k + 1) + r) / q = A2 at *
      generalize p * k + r = A3 at *
      generalize p * (k + 1) + r = A4 at *
      generalize p * (k + 1) = A5 at *
      generalize p * k = A6 at *
      obtain ⟨k1, hk1⟩ : ∃ k1, k1 = k + 1 := ⟨_, rfl⟩
      rw [← hk1] at e3 e4
      have Hk1 := Lib.hid hk1
      clear hk1
      have T0 : Below (w.heap.size + 1) wr wr.drew := (Below.refl _ _).drew
      go_wp2_with fail
      go_region_held3 (fun W => Below (w.heap.size + 1) wr W)
        (first
          | exact T0
          | exact T0.setCell (p := ⟨w.heap.size + 1, k, none⟩) (Nat.le_refl _) _)
        (first
          | (go_at_call 66; refine (mark_any _ _).mono ?_; rintro e w2 ⟨rfl, rfl⟩))
      have T2 : Hid (Below (w.heap.size + 1) W0 (wr.setCell ⟨w.heap.size + 1, k, none⟩ (encB (markU (A1 != A2))))) := Lib.hid (hbel.out.setCell (p := ⟨w.heap.size + 1, k, none⟩) (Nat.le_refl _) _)
      go_wp2_with fail
      go_roundw
      case rel => exact ⟨k + 1, by omega, by rw [Hk1.out], by rw [NE.out]; exact R2, by rw [NE.out]; exact Lib.hid T2.out.drew⟩
      case measure =>
        have h9 : k1 = k + 1 := Hk1.out
        simp [intOf]; omega
    · have hkq : k = q := by omega
      rw [hkq] at hrow
      have hrow2 : Row wr (w.heap.size + 1) 5 ((slopeL p q r).map encB) := by
        have h := hrow.out; rw [fillTo_full] at h; unfold slopeL; rw [List.map_map]; exact h
      have SL := slopeL_length p q r
      have HFO : Hid (Calls Try.prog 72 #[.slice (some ⟨w.heap.size + 1, 0, none⟩) q q, .int .i64 0] wr fun e w' => e = .returned (.agg #[.string (toS (slopeF p q r)), .string (toS (slopeR p q r))]) ∧ Below wr.heap.size wr w') := Lib.hid
        (formOf_any (w.heap.size + 1) 0 q q 0 (slopeL p q r) wr SL (by omega) (by omega) (Nat.le_refl _) hrow2.atB hrow2.lt)
      have LT := Lib.hid hrow2.lt
      clear hrow hrow2 SL hkq
      have nlt : ¬ k < q := hlt
      go_wp2_with fail
      refine HFO.out.mono ?_
      rintro e w1 ⟨rfl, hb1⟩
      have T1 : Hid (Below (w.heap.size + 1) W0 w1) := Lib.hid (hbel.out.trans (hb1.mono (Nat.le_of_lt LT.out)))
      obtain ⟨r0, r1, q0, q1⟩ := Z.out w1 T1.out
      clear hb1
      go_wp2_with fail
      exact bodyPost_ret (v := .tuple #[.agg #[.string (toS (slopeF p q r)), .string (toS (slopeR p q r))], .int .i64 0]) (by simp [results, Try.results54, go_sem, r0, r1]) rfl ⟨rfl, ((B0.out.trans (T1.out.mono (by omega))).setCell (p := ⟨w.heap.size, 0, none⟩) (Nat.le_refl _) _).setCell (p := ⟨w.heap.size, 1, none⟩) (Nat.le_refl _) _⟩
end Go.Proofs.Ytbhlddfjfcmncaa
