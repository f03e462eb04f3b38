import Derived.Test.YtbhlddfjfcmncaaM
import Derived.Test.YtbhlddfjfcmncaaShelf
import Derived.RangeFuncNested
import Derived.RangeFuncBound
import Derived.RangeFuncCalls
import Derived.RangeFuncLeaves
import Derived.Shelf.Abstract
import Derived.Shelf.RegionOpen
import Derived.WalkKit
import Derived.OwnWalkIn
import Derived.TacticsInMore
import Derived.LoopNIn
import Derived.LoopIn
import Derived.WalkSpells
import Derived.WalkLawsBesides
import Derived.BigQuiet
import Derived.Deep.QuietTactic
import Derived.Lib.Hide
import Derived.Deep.RegionHeld3
import Derived.StillTailTactics
import Derived.Lib.MakeNoZero
import Derived.Laws.CopyOwn
import Derived.Deep.RegionLaw
import Derived.Deep.LoopGhost
namespace Go.Proofs.Ytbhlddfjfcmncaa
open Go.RowKit Go.Shelf
attribute [local go_sem] Oper.semAt_some
theorem spanR_ge {r s : ByteArray} (h1 : 1 ≤ s.size) : r.size ≤ spanR r s := by
  unfold spanR
  have g1 : Nat.gcd r.size s.size ≤ s.size := Nat.gcd_le_right _ h1
  have e := Nat.div_mul_cancel (Nat.gcd_dvd_left r.size s.size)
  calc r.size = r.size / Nat.gcd r.size s.size * Nat.gcd r.size s.size := e.symm
    _ ≤ _ := Nat.mul_le_mul_left _ g1

def sumFirst (f r g s : ByteArray) : Nat := f.size + g.size + spanR r s
def sumL (f r g s : ByteArray) : List UInt8 := marksOf (sumFirst f r g s + spanR r s) (sumB f r g s)
/-- what Sum answers for two tides -/
def sumV (f r g s : ByteArray) : Value := fitV (formF (sumL f r g s) (sumFirst f r g s)) (formR (sumL f r g s) (sumFirst f r g s))

set_option maxRecDepth 100000 in
set_option maxHeartbeats 1000000 in
theorem Sum_ok (f r g s : ByteArray) (w : World) (ht : tideB (f, r) = true) (hu : tideB (g, s) = true) :
    Calls Try.prog 29 #[.agg #[.string f, .string r], .agg #[.string g, .string s]] w fun e w' => e = .returned (sumV f r g s) ∧ Below w.heap.size w w' := by
  have E := checkE2_ok ht hu
  obtain ⟨z1, z2, z3⟩ := tideB_size ht
  obtain ⟨y1, y2, y3⟩ := tideB_size hu
  have hb := spanR_bd z3 z2 y3 y2
  have hR := spanR_ge (r := r) y3
  have HV : Hid (sumV f r g s = fitV (formF (marksOf (f.size + g.size + spanR r s + spanR r s) (sumB f r g s)) (f.size + g.size + spanR r s)) (formR (marksOf (f.size + g.size + spanR r s + spanR r s) (sumB f r g s)) (f.size + g.size + spanR r s))) := Lib.hid rfl
  have HS : Hid (∀ b c w, w.cell? ⟨b, 0, none⟩ = some (.string f) → w.cell? ⟨b, 1, none⟩ = some (.string r) → w.cell? ⟨b, 2, none⟩ = some (.string g) → w.cell? ⟨b, 3, none⟩ = some (.string s) → Calls Try.prog 60 #[.slice (some ⟨b, 0, none⟩) 2 c] w fun e w' => e = .returned (.tuple #[.int .i64 (spanF f g), .int .i64 (spanR r s)]) ∧ Below w.heap.size w w') := Lib.hid (fun b c w h0 h1 h2 h3 => span_two b c f r g s w h0 h1 h2 h3 z1 z2 z3 y1 y2 y3)
  clear ht hu
  generalize spanF f g = F0 at *
  generalize spanR r s = R at *
  obtain ⟨hb1, hb2⟩ := hb
  go_enter Try.func29, Try.ntmps29
  go_wp2_with fail
  refine (check_two (w.heap.size + 1 + 1 + 1) _ f r g s _ (by simp [cell_al]) (by simp [cell_al]) (by simp [cell_al]) (by simp [cell_al]) (size_le _ z1) (size_le _ z2) (size_le _ y1) (size_le _ y2)).mono ?_
  rintro e w1 ⟨rfl, hb1⟩
  obtain ⟨W0, hW0⟩ : ∃ W0, W0 = ((w.alloc (.cells #[.string f, .string r] 23)).alloc (.cells #[.string g, .string s] 23)).alloc (.cells #[.string { data := #[] }, .string { data := #[] }] 23) := ⟨_, rfl⟩
  have hsz : W0.heap.size = w.heap.size + 3 := by rw [hW0, size_al, size_al, size_al]
  have B0 : Hid (Below w.heap.size w W0) := Lib.hid (by rw [hW0]; exact (((Below.refl _ _).alloc (Nat.le_refl _) _).alloc (by rw [size_al]; omega) _).alloc (by rw [size_al, size_al]; omega) _)
  have P : Hid (∀ W, Below W0.heap.size W0 W → W.cell? ⟨w.heap.size, 0, none⟩ = some (.string f) ∧ W.cell? ⟨w.heap.size, 1, none⟩ = some (.string r) ∧ W.cell? ⟨w.heap.size + 1, 0, none⟩ = some (.string g) ∧ W.cell? ⟨w.heap.size + 1, 1, none⟩ = some (.string s)) := Lib.hid (fun W h => by
    refine ⟨below_at h (by omega) ?_, below_at h (by omega) ?_, below_at h (by omega) ?_, below_at h (by omega) ?_⟩ <;> (rw [hW0]; simp [cell_al] <;> (intro h; omega)))
  have Z : Hid (∀ W, Below W0.heap.size W0 W → W.cell? ⟨w.heap.size + 1 + 1, 0, none⟩ = some (.string { data := #[] }) ∧ W.cell? ⟨w.heap.size + 1 + 1, 1, none⟩ = some (.string { data := #[] }) ∧ W.frozen? ⟨w.heap.size + 1 + 1, 0, none⟩ = false ∧ W.frozen? ⟨w.heap.size + 1 + 1, 1, none⟩ = false) := Lib.hid (fun W h => by
    refine ⟨below_at h (by omega) ?_, below_at h (by omega) ?_, (h.frozen (p := ⟨w.heap.size + 1 + 1, 0, none⟩) (by show _ + 1 < _; omega)).trans ?_, (h.frozen (p := ⟨w.heap.size + 1 + 1, 1, none⟩) (by show _ + 1 < _; omega)).trans ?_⟩ <;> (rw [hW0]; simp [cell_al, frozen_al] <;> (intro h; omega)))
  have T1 : Hid (Below W0.heap.size W0 w1) := Lib.hid (by
    rw [← hW0] at hb1; exact ((Below.refl _ _).alloc (Nat.le_refl _) _).trans (hb1.mono (by rw [size_al]; omega)))
  have Hsz := Lib.hid hsz
  clear hb1 hW0 hsz
  obtain ⟨b0, b1, b2, b3⟩ := P.out w1 T1.out
  go_wp2_with fail
  refine (HS.out _ _ _ (by simp [cell_al]) (by simp [cell_al]) (by simp [cell_al]) (by simp [cell_al])).mono ?_
  rintro e w2 ⟨rfl, hb2⟩
  have T2 : Hid (Below W0.heap.size W0 w2) := Lib.hid ((T1.out.alloc T1.out.size _).trans (hb2.mono (by have := T1.out.size; rw [size_al]; omega)))
  clear hb2 b0 b1 b2 b3
  obtain ⟨b0, b1, b2, b3⟩ := P.out w2 T2.out
  go_wp2_with fail
  rw [show (f.size : Int) + (g.size : Int) + (R : Int) + (R : Int) = ((f.size + g.size + R + R : Nat) : Int) by omega]
  have HFI : Hid ((f.size : Int) + (g.size : Int) + (R : Int) = ((f.size + g.size + R : Nat) : Int)) := Lib.hid (by omega)
  refine (callsIn_wide.1 (sums_in f r g s (f.size + g.size + R + R) _ z1 z2 z3 y3 (by omega) (by omega))).mono ?_
  rintro e w3 ⟨b, rest, rfl, hb0, hrow, hb3⟩
  have T3 : Hid (Below W0.heap.size W0 w3) := Lib.hid (Below.andThen T2.out hb3 (Nat.le_refl _))
  have JL := marksOf_length (f.size + g.size + R + R) (sumB f r g s)
  have HFO : Hid (Calls Try.prog 72 #[.slice (some ⟨b, 0, none⟩) (f.size + g.size + R + R) (f.size + g.size + R + R), .int .i64 ((f.size + g.size + R : Nat) : Int)] w3 fun e w' => e = .returned (.agg #[.string (toS (formF (marksOf (f.size + g.size + R + R) (sumB f r g s)) (f.size + g.size + R))), .string (toS (formR (marksOf (f.size + g.size + R + R) (sumB f r g s)) (f.size + g.size + R)))]) ∧ Below w3.heap.size w3 w') := Lib.hid
    (formOf_any b 0 (f.size + g.size + R + R) (f.size + g.size + R + R) (f.size + g.size + R) (marksOf (f.size + g.size + R + R) (sumB f r g s)) w3 JL (by omega) (by omega) (Nat.le_refl _) hrow.atB hrow.lt)
  have L1 := formF_le (marksOf (f.size + g.size + R + R) (sumB f r g s)) (f.size + g.size + R)
  have L2 := formR_le (marksOf (f.size + g.size + R + R) (sumB f r g s)) (f.size + g.size + R)
  rw [JL] at L1 L2
  clear hb0 hrow hb3 JL b0 b1 b2 b3
  generalize formF (marksOf (f.size + g.size + R + R) (sumB f r g s)) (f.size + g.size + R) = FF at *
  generalize formR (marksOf (f.size + g.size + R + R) (sumB f r g s)) (f.size + g.size + R) = RR at *
  go_wp2_with fail
  rw [HFI.out]
  refine HFO.out.mono ?_
  rintro e w4 ⟨rfl, hb4⟩
  have T4 : Hid (Below W0.heap.size W0 w4) := Lib.hid (Below.andThen T3.out hb4 (Nat.le_refl _))
  clear hb4 HFO
  go_wp2_with fail
  refine (fitting_L FF RR _ (by omega) (by omega)).mono ?_
  rintro e w5 ⟨rfl, hb5⟩
  have T5 : Hid (Below W0.heap.size W0 w5) := Lib.hid (Below.andThen T4.out hb5 (Nat.le_refl _))
  clear hb5
  obtain ⟨r0, r1, q0, q1⟩ := Z.out w5 T5.out
  obtain ⟨va, vb, vc, hv⟩ := fitV_cases FF RR
  have HVV := Lib.hid (HV.out.trans hv)
  rw [hv]
  clear hv
  go_wp2_with fail
  exact bodyPost_ret (v := .tuple #[.agg #[.string va, .string vb], .int .i64 vc]) (by simp [results, Try.results29, go_sem, r0, r1]) rfl ⟨by rw [HVV.out], ((B0.out.trans (T5.out.mono (by rw [Hsz.out]; omega))).setCell (p := ⟨w.heap.size + 1 + 1, 0, none⟩) (by show _ ≤ _ + 1 + 1; omega) _).setCell (p := ⟨w.heap.size + 1 + 1, 1, none⟩) (by show _ ≤ _ + 1 + 1; omega) _⟩
set_option maxRecDepth 100000 in
set_option maxHeartbeats 1000000 in
theorem Sum_err (f r g s : ByteArray) (w : World) (hE : checkE2 f r g s = 10) (x1 : f.size ≤ 9223372036854775807) (x2 : r.size ≤ 9223372036854775807) (x3 : g.size ≤ 9223372036854775807) (x4 : s.size ≤ 9223372036854775807) :
    Calls Try.prog 29 #[.agg #[.string f, .string r], .agg #[.string g, .string s]] w fun e w' => e = .returned (errV 10) ∧ Below w.heap.size w w' := by
  go_enter Try.func29, Try.ntmps29
  go_wp2_with fail
  refine (check_two (w.heap.size + 1 + 1 + 1) _ f r g s _ (by simp [cell_al]) (by simp [cell_al]) (by simp [cell_al]) (by simp [cell_al]) x1 x2 x3 x4).mono ?_
  rintro e w1 ⟨rfl, hb1⟩
  have B1 : Hid (Below w.heap.size w w1) := Lib.hid ((((((Below.refl _ _).alloc (Nat.le_refl _) _).alloc (by rw [size_al]; omega) _).alloc (by rw [size_al, size_al]; omega) _).alloc (by rw [size_al, size_al, size_al]; omega) _).trans (hb1.mono (by rw [size_al, size_al, size_al, size_al]; omega)))
  have c0 := below_at hb1 (b := w.heap.size + 1 + 1) (o := 0) (v := .string { data := #[] }) (by rw [size_al, size_al, size_al, size_al]; omega) (by simp [cell_al])
  have c1 := below_at hb1 (b := w.heap.size + 1 + 1) (o := 1) (v := .string { data := #[] }) (by rw [size_al, size_al, size_al, size_al]; omega) (by simp [cell_al])
  have f0 : w1.frozen? ⟨w.heap.size + 1 + 1, 0, none⟩ = false := (hb1.frozen (p := ⟨w.heap.size + 1 + 1, 0, none⟩) (by show _ + 1 < _; rw [size_al, size_al, size_al, size_al]; omega)).trans (by simp [frozen_al])
  have f1 : w1.frozen? ⟨w.heap.size + 1 + 1, 1, none⟩ = false := (hb1.frozen (p := ⟨w.heap.size + 1 + 1, 1, none⟩) (by show _ + 1 < _; rw [size_al, size_al, size_al, size_al]; omega)).trans (by simp [frozen_al])
  clear hb1
  go_wp2_with fail
  exact bodyPost_ret (v := errV 10) (by simp [results, Try.results29, go_sem, c0, c1]; rfl) rfl ⟨rfl, (B1.out.setCell (p := ⟨w.heap.size + 1 + 1, 0, none⟩) (by show _ ≤ _ + 1 + 1; omega) _).setCell (p := ⟨w.heap.size + 1 + 1, 1, none⟩) (by show _ ≤ _ + 1 + 1; omega) _⟩


/-- what Sum answers -/
def sumR (f r g s : ByteArray) : Value := if tideB (f, r) && tideB (g, s) then sumV f r g s else errV 10
theorem sumR_cases (f r g s : ByteArray) : ∃ (a b : ByteArray) (c : Int), sumR f r g s = .tuple #[.agg #[.string a, .string b], .int .i64 c] := by
  unfold sumR; split
  · exact fitV_cases _ _
  · exact ⟨_, _, _, rfl⟩
theorem Sum_any (f r g s : ByteArray) (w : World) (x1 : f.size ≤ 9223372036854775807) (x2 : r.size ≤ 9223372036854775807) (x3 : g.size ≤ 9223372036854775807) (x4 : s.size ≤ 9223372036854775807) :
    Calls Try.prog 29 #[.agg #[.string f, .string r], .agg #[.string g, .string s]] w fun e w' => e = .returned (sumR f r g s) ∧ Below w.heap.size w w' := by
  cases ht : tideB (f, r)
  · have h := Sum_err f r g s w (checkE2_no1 ht) x1 x2 x3 x4
    unfold sumR; rw [ht]; exact h
  · cases hu : tideB (g, s)
    · have h := Sum_err f r g s w (checkE2_no2 hu) x1 x2 x3 x4
      unfold sumR; rw [ht, hu]; exact h
    · have h := Sum_ok f r g s w ht hu
      unfold sumR; rw [ht, hu]; exact h
end Go.Proofs.Ytbhlddfjfcmncaa
