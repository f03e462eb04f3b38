import Derived.Test.YtbhlddfjfcmncaaG
import Derived.Test.YtbhlddfjfcmncaaShelf
import Derived.WalkKit
import Derived.WalkSpells
import Derived.WalkLawsBesides
import Derived.BigQuiet
import Derived.Deep.QuietTactic
import Derived.Lib.Hide
import Derived.StillTailTactics
import Derived.Lib.SlBytesRow
import Derived.Deep.RegionHeld3
import Derived.Deep.LoopGhost
namespace Go.Proofs.Ytbhlddfjfcmncaa
open Go.RowKit
def spanF (f g : ByteArray) : Nat := max f.size g.size
def spanR (r s : ByteArray) : Nat := r.size / Nat.gcd r.size s.size * s.size
theorem spanR_bd {r s : ByteArray} (h1 : 1 ≤ r.size) (h2 : r.size ≤ 60) (h3 : 1 ≤ s.size) (h4 : s.size ≤ 60) : 1 ≤ spanR r s ∧ spanR r s ≤ 3600 := by
  unfold spanR
  have g1 : 1 ≤ Nat.gcd r.size s.size := Nat.gcd_pos_of_pos_right _ (by omega)
  have g2 : Nat.gcd r.size s.size ≤ r.size := Nat.gcd_le_left _ (by omega)
  have q1 : 1 ≤ r.size / Nat.gcd r.size s.size := Nat.div_pos g2 g1
  have q2 : r.size / Nat.gcd r.size s.size ≤ 60 := Nat.le_trans (Nat.div_le_self _ _) h2
  exact ⟨Nat.mul_pos q1 h3, Nat.le_trans (Nat.mul_le_mul q2 h4) (by omega)⟩

theorem span_two (b c : Nat) (f r g s : ByteArray) (w : World) (h0 : w.cell? ⟨b, 0, none⟩ = some (.string f)) (h1 : w.cell? ⟨b, 1, none⟩ = some (.string r)) (h2 : w.cell? ⟨b, 2, none⟩ = some (.string g)) (h3 : w.cell? ⟨b, 3, none⟩ = some (.string s))
    (z1 : f.size ≤ 60) (z2 : r.size ≤ 60) (z3 : 1 ≤ r.size) (y1 : g.size ≤ 60) (y2 : s.size ≤ 60) (y3 : 1 ≤ s.size) :
    Calls Try.prog 60 #[.slice (some ⟨b, 0, none⟩) 2 c] w fun e w' => e = .returned (.tuple #[.int .i64 (spanF f g), .int .i64 (spanR r s)]) ∧ Below w.heap.size w w' := by
  have hb := spanR_bd z3 z2 y3 y2
  refine (span_any b 2 c [(f, r), (g, s)] (fun k => match k with | 0 => 0 | 1 => f.size | _ => spanF f g) (fun k => match k with | 0 => 1 | 1 => r.size | _ => spanR r s) w rfl (by omega) (tidesAt_two h0 h1 h2 h3) (block_lt_of_cell h0) rfl rfl ?_ ?_ ?_ ?_).mono ?_
  · intro k hk
    match k, hk with
    | 0, _ => simp
    | 1, _ => rfl
  · intro k hk
    match k, hk with
    | 0, _ => simp
    | 1, _ => rfl
  · intro k hk
    match k, hk with
    | 0, _ => simp
    | 1, _ => exact ⟨by show f.size ≤ _; omega, by show 1 ≤ r.size; omega, by show r.size ≤ _; omega⟩
    | 2, _ => exact ⟨by show spanF f g ≤ _; unfold spanF; omega, hb.1, by show spanR r s ≤ _; omega⟩
  · intro t ht; simp at ht; rcases ht with rfl | rfl
    · exact ⟨z1, z3, z2⟩
    · exact ⟨y1, y3, y2⟩
  · rintro e w' ⟨rfl, h⟩; exact ⟨rfl, h⟩

def fitV (F R : List UInt8) : Value := if F.length ≤ 60 ∧ R.length ≤ 60 then .tuple #[.agg #[.string (toS F), .string (toS R)], .int .i64 0] else .tuple #[.agg #[.string ByteArray.empty, .string ByteArray.empty], .int .i64 8]
theorem fitting_L (F R : List UInt8) (w : World) (hf : F.length ≤ 1000000) (hr : R.length ≤ 1000000) :
    Calls Try.prog 71 #[.agg #[.string (toS F), .string (toS R)]] w fun e w' => e = .returned (fitV F R) ∧ Below w.heap.size w w' := by
  have h := fitting_any (toS F) (toS R) w (by rw [toS_size]; exact hf) (by rw [toS_size]; exact hr)
  unfold fitV; rw [toS_size, toS_size] at h; exact h
theorem fitV_cases (F R : List UInt8) : ∃ (a b : ByteArray) (c : Int), fitV F R = .tuple #[.agg #[.string a, .string b], .int .i64 c] := by
  unfold fitV; split
  · exact ⟨_, _, _, rfl⟩
  · exact ⟨_, _, _, rfl⟩

theorem formF_le (l : List UInt8) (n : Nat) : (formF l n).length ≤ l.length := by unfold formF; simp; omega
theorem formR_le (l : List UInt8) (n : Nat) : (formR l n).length ≤ l.length := by unfold formR; simp; omega

theorem joinL_length (f r g s : ByteArray) (n : Nat) (q : Bool → Bool → Bool) : (joinL f r g s n q).length = n := by unfold joinL; simp

/-- what combined answers for two tides -/
def combV (f r g s : ByteArray) (q : Bool → Bool → Bool) : Value :=
  fitV (formF (joinL f r g s (spanF f g + spanR r s) q) (spanF f g)) (formR (joinL f r g s (spanF f g + spanR r s) q) (spanF f g))

set_option maxRecDepth 100000 in
set_option maxHeartbeats 1000000 in
theorem combined_ok (f r g s : ByteArray) (fid : FuncId) (q : Bool → Bool → Bool) (w : World) (ht : tideB (f, r) = true) (hu : tideB (g, s) = true)
    (hcf : ∀ args w, (callFunc fid args).run Try.prog w = .ok (.enter fid args) w)
    (hq : ∀ (a b : Bool) (w : World), Calls Try.prog fid #[.bool a, .bool b] w fun e w' => e = .returned (.int .u8 (markU (q a b)).toNat) ∧ w = w') :
    Calls Try.prog 64 #[.agg #[.string f, .string r], .agg #[.string g, .string s], .func (.func fid) #[] #[]] w fun e w' => e = .returned (combV f r g s q) ∧ Below w.heap.size w w' := by
  have E := checkE2_ok ht hu
  obtain ⟨z1, z2, z3⟩ := tideB_size ht
  obtain ⟨y1, y2, y3⟩ := tideB_size hu
  have hb := spanR_bd z3 z2 y3 y2
  have hF : spanF f g ≤ 60 := by unfold spanF; omega
  have HCF := Lib.hid hcf
  have HQ := Lib.hid hq
  have HV : Hid (combV f r g s q = fitV (formF (joinL f r g s (spanF f g + spanR r s) q) (spanF f g)) (formR (joinL f r g s (spanF f g + spanR r s) q) (spanF f g))) := Lib.hid rfl
  have HS : Hid (∀ b c w, w.cell? ⟨b, 0, none⟩ = some (.string f) → w.cell? ⟨b, 1, none⟩ = some (.string r) → w.cell? ⟨b, 2, none⟩ = some (.string g) → w.cell? ⟨b, 3, none⟩ = some (.string s) → Calls Try.prog 60 #[.slice (some ⟨b, 0, none⟩) 2 c] w fun e w' => e = .returned (.tuple #[.int .i64 (spanF f g), .int .i64 (spanR r s)]) ∧ Below w.heap.size w w') := Lib.hid (fun b c w h0 h1 h2 h3 => span_two b c f r g s w h0 h1 h2 h3 z1 z2 z3 y1 y2 y3)
  clear ht hu hcf hq
  generalize spanF f g = F at *
  generalize spanR r s = R at *
  obtain ⟨hb1, hb2⟩ := hb
  go_enter Try.func64, Try.ntmps64
  go_wp2_with fail
  refine (check_two (w.heap.size + 1 + 1 + 1) _ f r g s _ (by simp [cell_al]) (by simp [cell_al]) (by simp [cell_al]) (by simp [cell_al]) (size_le _ z1) (size_le _ z2) (size_le _ y1) (size_le _ y2)).mono ?_
  rintro e w1 ⟨rfl, hb1⟩
  obtain ⟨W0, hW0⟩ : ∃ W0, W0 = ((w.alloc (.cells #[.string f, .string r] 23)).alloc (.cells #[.string g, .string s] 23)).alloc (.cells #[.string { data := #[] }, .string { data := #[] }] 23) := ⟨_, rfl⟩
  have hsz : W0.heap.size = w.heap.size + 3 := by rw [hW0, size_al, size_al, size_al]
  have B0 : Hid (Below w.heap.size w W0) := Lib.hid (by rw [hW0]; exact (((Below.refl _ _).alloc (Nat.le_refl _) _).alloc (by rw [size_al]; omega) _).alloc (by rw [size_al, size_al]; omega) _)
  have P : Hid (∀ W, Below W0.heap.size W0 W → W.cell? ⟨w.heap.size, 0, none⟩ = some (.string f) ∧ W.cell? ⟨w.heap.size, 1, none⟩ = some (.string r) ∧ W.cell? ⟨w.heap.size + 1, 0, none⟩ = some (.string g) ∧ W.cell? ⟨w.heap.size + 1, 1, none⟩ = some (.string s)) := Lib.hid (fun W h => by
    refine ⟨below_at h (by omega) ?_, below_at h (by omega) ?_, below_at h (by omega) ?_, below_at h (by omega) ?_⟩ <;> (rw [hW0]; simp [cell_al] <;> (intro h; omega)))
  have Z : Hid (∀ W, Below W0.heap.size W0 W → W.cell? ⟨w.heap.size + 1 + 1, 0, none⟩ = some (.string { data := #[] }) ∧ W.cell? ⟨w.heap.size + 1 + 1, 1, none⟩ = some (.string { data := #[] }) ∧ W.frozen? ⟨w.heap.size + 1 + 1, 0, none⟩ = false ∧ W.frozen? ⟨w.heap.size + 1 + 1, 1, none⟩ = false) := Lib.hid (fun W h => by
    refine ⟨below_at h (by omega) ?_, below_at h (by omega) ?_, (h.frozen (p := ⟨w.heap.size + 1 + 1, 0, none⟩) (by show _ + 1 < _; omega)).trans ?_, (h.frozen (p := ⟨w.heap.size + 1 + 1, 1, none⟩) (by show _ + 1 < _; omega)).trans ?_⟩ <;> (rw [hW0]; simp [cell_al, frozen_al] <;> (intro h; omega)))
  have T1 : Hid (Below W0.heap.size W0 w1) := Lib.hid (by
    rw [← hW0] at hb1; exact ((Below.refl _ _).alloc (Nat.le_refl _) _).trans (hb1.mono (by rw [size_al]; omega)))
  have Hsz := Lib.hid hsz
  clear hb1 hW0 hsz
  obtain ⟨b0, b1, b2, b3⟩ := P.out w1 T1.out
  go_wp2_with fail
  refine (HS.out _ _ _ (by simp [cell_al]) (by simp [cell_al]) (by simp [cell_al]) (by simp [cell_al])).mono ?_
  rintro e w2 ⟨rfl, hb2⟩
  have T2 : Hid (Below W0.heap.size W0 w2) := Lib.hid ((T1.out.alloc T1.out.size _).trans (hb2.mono (by have := T1.out.size; rw [size_al]; omega)))
  clear hb2 b0 b1 b2 b3
  obtain ⟨b0, b1, b2, b3⟩ := P.out w2 T2.out
  go_wp2_with fail
  rw [show (F : Int) + (R : Int) = ((F + R : Nat) : Int) by omega]
  refine (joined_any f r g s (F + R) fid q _ z3 y3 (by omega) HCF.out HQ.out).mono ?_
  rintro e w3 ⟨b, rfl, hb0, hrow, hb3⟩
  have T3 : Hid (Below W0.heap.size W0 w3) := Lib.hid (Below.andThen T2.out hb3 (Nat.le_refl _))
  have JL := joinL_length f r g s (F + R) q
  have HFO : Hid (Calls Try.prog 72 #[.slice (some ⟨b, 0, none⟩) (F + R) (F + R), .int .i64 F] w3 fun e w' => e = .returned (.agg #[.string (toS (formF (joinL f r g s (F + R) q) F)), .string (toS (formR (joinL f r g s (F + R) q) F))]) ∧ Below w3.heap.size w3 w') := Lib.hid
    (formOf_any b 0 (F + R) (F + R) F (joinL f r g s (F + R) q) w3 JL (by omega) (by omega) (Nat.le_refl _) hrow.atB hrow.lt)
  have L1 := formF_le (joinL f r g s (F + R) q) F
  have L2 := formR_le (joinL f r g s (F + R) q) F
  rw [JL] at L1 L2
  clear hb0 hrow hb3 JL b0 b1 b2 b3
  generalize formF (joinL f r g s (F + R) q) F = FF at *
  generalize formR (joinL f r g s (F + R) q) F = RR at *
  go_wp2_with fail
  refine HFO.out.mono ?_
  rintro e w4 ⟨rfl, hb4⟩
  have T4 : Hid (Below W0.heap.size W0 w4) := Lib.hid (Below.andThen T3.out hb4 (Nat.le_refl _))
  clear hb4 HFO
  go_wp2_with fail
  refine (fitting_L FF RR _ (by omega) (by omega)).mono ?_
  rintro e w5 ⟨rfl, hb5⟩
  have T5 : Hid (Below W0.heap.size W0 w5) := Lib.hid (Below.andThen T4.out hb5 (Nat.le_refl _))
  clear hb5
  obtain ⟨r0, r1, q0, q1⟩ := Z.out w5 T5.out
  obtain ⟨va, vb, vc, hv⟩ := fitV_cases FF RR
  have HVV := Lib.hid (HV.out.trans hv)
  rw [hv]
  clear hv
  go_wp2_with fail
  exact bodyPost_ret (v := .tuple #[.agg #[.string va, .string vb], .int .i64 vc]) (by simp [results, Try.results64, go_sem, r0, r1]) rfl ⟨by rw [HVV.out], ((B0.out.trans (T5.out.mono (by rw [Hsz.out]; omega))).setCell (p := ⟨w.heap.size + 1 + 1, 0, none⟩) (by show _ ≤ _ + 1 + 1; omega) _).setCell (p := ⟨w.heap.size + 1 + 1, 1, none⟩) (by show _ ≤ _ + 1 + 1; omega) _⟩

def errV (c : Int) : Value := .tuple #[.agg #[.string ByteArray.empty, .string ByteArray.empty], .int .i64 c]

set_option maxRecDepth 100000 in
set_option maxHeartbeats 1000000 in
theorem combined_err (f r g s : ByteArray) (fid : FuncId) (w : World) (hE : checkE2 f r g s = 10) (x1 : f.size ≤ 9223372036854775807) (x2 : r.size ≤ 9223372036854775807) (x3 : g.size ≤ 9223372036854775807) (x4 : s.size ≤ 9223372036854775807) :
    Calls Try.prog 64 #[.agg #[.string f, .string r], .agg #[.string g, .string s], .func (.func fid) #[] #[]] w fun e w' => e = .returned (errV 10) ∧ Below w.heap.size w w' := by
  go_enter Try.func64, Try.ntmps64
  go_wp2_with fail
  refine (check_two (w.heap.size + 1 + 1 + 1) _ f r g s _ (by simp [cell_al]) (by simp [cell_al]) (by simp [cell_al]) (by simp [cell_al]) x1 x2 x3 x4).mono ?_
  rintro e w1 ⟨rfl, hb1⟩
  have B1 : Hid (Below w.heap.size w w1) := Lib.hid ((((((Below.refl _ _).alloc (Nat.le_refl _) _).alloc (by rw [size_al]; omega) _).alloc (by rw [size_al, size_al]; omega) _).alloc (by rw [size_al, size_al, size_al]; omega) _).trans (hb1.mono (by rw [size_al, size_al, size_al, size_al]; omega)))
  have c0 := below_at hb1 (b := w.heap.size + 1 + 1) (o := 0) (v := .string { data := #[] }) (by rw [size_al, size_al, size_al, size_al]; omega) (by simp [cell_al])
  have c1 := below_at hb1 (b := w.heap.size + 1 + 1) (o := 1) (v := .string { data := #[] }) (by rw [size_al, size_al, size_al, size_al]; omega) (by simp [cell_al])
  have f0 : w1.frozen? ⟨w.heap.size + 1 + 1, 0, none⟩ = false := (hb1.frozen (p := ⟨w.heap.size + 1 + 1, 0, none⟩) (by show _ + 1 < _; rw [size_al, size_al, size_al, size_al]; omega)).trans (by simp [frozen_al])
  have f1 : w1.frozen? ⟨w.heap.size + 1 + 1, 1, none⟩ = false := (hb1.frozen (p := ⟨w.heap.size + 1 + 1, 1, none⟩) (by show _ + 1 < _; rw [size_al, size_al, size_al, size_al]; omega)).trans (by simp [frozen_al])
  clear hb1
  go_wp2_with fail
  exact bodyPost_ret (v := errV 10) (by simp [results, Try.results64, go_sem, c0, c1]; rfl) rfl ⟨rfl, (B1.out.setCell (p := ⟨w.heap.size + 1 + 1, 0, none⟩) (by show _ ≤ _ + 1 + 1; omega) _).setCell (p := ⟨w.heap.size + 1 + 1, 1, none⟩) (by show _ ≤ _ + 1 + 1; omega) _⟩

/-- what combined answers -/
def combR (f r g s : ByteArray) (q : Bool → Bool → Bool) : Value := if tideB (f, r) && tideB (g, s) then combV f r g s q else errV 10
theorem combR_cases (f r g s : ByteArray) (q : Bool → Bool → Bool) : ∃ (a b : ByteArray) (c : Int), combR f r g s q = .tuple #[.agg #[.string a, .string b], .int .i64 c] := by
  unfold combR; split
  · exact fitV_cases _ _
  · exact ⟨_, _, _, rfl⟩

theorem combined_any (f r g s : ByteArray) (fid : FuncId) (q : Bool → Bool → Bool) (w : World) (x1 : f.size ≤ 9223372036854775807) (x2 : r.size ≤ 9223372036854775807) (x3 : g.size ≤ 9223372036854775807) (x4 : s.size ≤ 9223372036854775807)
    (hcf : ∀ args w, (callFunc fid args).run Try.prog w = .ok (.enter fid args) w)
    (hq : ∀ (a b : Bool) (w : World), Calls Try.prog fid #[.bool a, .bool b] w fun e w' => e = .returned (.int .u8 (markU (q a b)).toNat) ∧ w = w') :
    Calls Try.prog 64 #[.agg #[.string f, .string r], .agg #[.string g, .string s], .func (.func fid) #[] #[]] w fun e w' => e = .returned (combR f r g s q) ∧ Below w.heap.size w w' := by
  cases ht : tideB (f, r)
  · have h := combined_err f r g s fid w (checkE2_no1 ht) x1 x2 x3 x4
    unfold combR; rw [ht]; exact h
  · cases hu : tideB (g, s)
    · have h := combined_err f r g s fid w (checkE2_no2 hu) x1 x2 x3 x4
      unfold combR; rw [ht, hu]; exact h
    · have h := combined_ok f r g s fid q w ht hu hcf hq
      unfold combR; rw [ht, hu]; exact h

set_option maxRecDepth 100000 in
set_option maxHeartbeats 1000000 in
theorem Both_any (f r g s : ByteArray) (w : World) (x1 : f.size ≤ 9223372036854775807) (x2 : r.size ≤ 9223372036854775807) (x3 : g.size ≤ 9223372036854775807) (x4 : s.size ≤ 9223372036854775807) :
    Calls Try.prog 25 #[.agg #[.string f, .string r], .agg #[.string g, .string s]] w fun e w' => e = .returned (combR f r g s (fun a b => a && b)) ∧ Below w.heap.size w w' := by
  obtain ⟨va, vb, vc, hv⟩ := combR_cases f r g s (fun a b => a && b)
  have HV := Lib.hid hv
  have HC : Hid (∀ W, Calls Try.prog 64 #[.agg #[.string f, .string r], .agg #[.string g, .string s], .func (.func 65) #[] #[]] W fun e w' => e = .returned (.tuple #[.agg #[.string va, .string vb], .int .i64 vc]) ∧ Below W.heap.size W w') := Lib.hid (fun W => by
    have h := combined_any f r g s 65 (fun a b => a && b) W x1 x2 x3 x4 cf65 both_cl
    rw [hv] at h; exact h)
  clear hv
  go_enter Try.func25, Try.ntmps25
  go_wp2_with fail
  refine (HC.out _).mono ?_
  rintro e w1 ⟨rfl, hb1⟩
  have B1 : Hid (Below w.heap.size w w1) := Lib.hid (((((Below.refl _ _).alloc (Nat.le_refl _) _).alloc (by rw [size_al]; omega) _).alloc (by rw [size_al, size_al]; omega) _).trans (hb1.mono (by rw [size_al, size_al, size_al]; omega)))
  have c0 := below_at hb1 (b := w.heap.size + 1 + 1) (o := 0) (v := .string { data := #[] }) (by rw [size_al, size_al, size_al]; omega) (by simp [cell_al])
  have c1 := below_at hb1 (b := w.heap.size + 1 + 1) (o := 1) (v := .string { data := #[] }) (by rw [size_al, size_al, size_al]; omega) (by simp [cell_al])
  have f0 : w1.frozen? ⟨w.heap.size + 1 + 1, 0, none⟩ = false := (hb1.frozen (p := ⟨w.heap.size + 1 + 1, 0, none⟩) (by show _ + 1 < _; rw [size_al, size_al, size_al]; omega)).trans (by simp [frozen_al])
  have f1 : w1.frozen? ⟨w.heap.size + 1 + 1, 1, none⟩ = false := (hb1.frozen (p := ⟨w.heap.size + 1 + 1, 1, none⟩) (by show _ + 1 < _; rw [size_al, size_al, size_al]; omega)).trans (by simp [frozen_al])
  clear hb1
  go_wp2_with fail
  exact bodyPost_ret (v := .tuple #[.agg #[.string va, .string vb], .int .i64 vc]) (by simp [results, Try.results25, go_sem, c0, c1]) rfl ⟨by rw [HV.out], (B1.out.setCell (p := ⟨w.heap.size + 1 + 1, 0, none⟩) (by show _ ≤ _ + 1 + 1; omega) _).setCell (p := ⟨w.heap.size + 1 + 1, 1, none⟩) (by show _ ≤ _ + 1 + 1; omega) _⟩

set_option maxRecDepth 100000 in
set_option maxHeartbeats 1000000 in
theorem Either_any (f r g s : ByteArray) (w : World) (x1 : f.size ≤ 9223372036854775807) (x2 : r.size ≤ 9223372036854775807) (x3 : g.size ≤ 9223372036854775807) (x4 : s.size ≤ 9223372036854775807) :
    Calls Try.prog 26 #[.agg #[.string f, .string r], .agg #[.string g, .string s]] w fun e w' => e = .returned (combR f r g s (fun a b => a || b)) ∧ Below w.heap.size w w' := by
  obtain ⟨va, vb, vc, hv⟩ := combR_cases f r g s (fun a b => a || b)
  have HV := Lib.hid hv
  have HC : Hid (∀ W, Calls Try.prog 64 #[.agg #[.string f, .string r], .agg #[.string g, .string s], .func (.func 67) #[] #[]] W fun e w' => e = .returned (.tuple #[.agg #[.string va, .string vb], .int .i64 vc]) ∧ Below W.heap.size W w') := Lib.hid (fun W => by
    have h := combined_any f r g s 67 (fun a b => a || b) W x1 x2 x3 x4 cf67 either_cl
    rw [hv] at h; exact h)
  clear hv
  go_enter Try.func26, Try.ntmps26
  go_wp2_with fail
  refine (HC.out _).mono ?_
  rintro e w1 ⟨rfl, hb1⟩
  have B1 : Hid (Below w.heap.size w w1) := Lib.hid (((((Below.refl _ _).alloc (Nat.le_refl _) _).alloc (by rw [size_al]; omega) _).alloc (by rw [size_al, size_al]; omega) _).trans (hb1.mono (by rw [size_al, size_al, size_al]; omega)))
  have c0 := below_at hb1 (b := w.heap.size + 1 + 1) (o := 0) (v := .string { data := #[] }) (by rw [size_al, size_al, size_al]; omega) (by simp [cell_al])
  have c1 := below_at hb1 (b := w.heap.size + 1 + 1) (o := 1) (v := .string { data := #[] }) (by rw [size_al, size_al, size_al]; omega) (by simp [cell_al])
  have f0 : w1.frozen? ⟨w.heap.size + 1 + 1, 0, none⟩ = false := (hb1.frozen (p := ⟨w.heap.size + 1 + 1, 0, none⟩) (by show _ + 1 < _; rw [size_al, size_al, size_al]; omega)).trans (by simp [frozen_al])
  have f1 : w1.frozen? ⟨w.heap.size + 1 + 1, 1, none⟩ = false := (hb1.frozen (p := ⟨w.heap.size + 1 + 1, 1, none⟩) (by show _ + 1 < _; rw [size_al, size_al, size_al]; omega)).trans (by simp [frozen_al])
  clear hb1
  go_wp2_with fail
  exact bodyPost_ret (v := .tuple #[.agg #[.string va, .string vb], .int .i64 vc]) (by simp [results, Try.results26, go_sem, c0, c1]) rfl ⟨by rw [HV.out], (B1.out.setCell (p := ⟨w.heap.size + 1 + 1, 0, none⟩) (by show _ ≤ _ + 1 + 1; omega) _).setCell (p := ⟨w.heap.size + 1 + 1, 1, none⟩) (by show _ ≤ _ + 1 + 1; omega) _⟩

set_option maxRecDepth 100000 in
set_option maxHeartbeats 1000000 in
theorem Not_any (f r : ByteArray) (w : World) (x1 : f.size ≤ 9223372036854775807) (x2 : r.size ≤ 9223372036854775807) :
    Calls Try.prog 27 #[.agg #[.string f, .string r]] w fun e w' => e = .returned (combR f r f r (fun a _ => !a)) ∧ Below w.heap.size w w' := by
  obtain ⟨va, vb, vc, hv⟩ := combR_cases f r f r (fun a _ => !a)
  have HV := Lib.hid hv
  have HC : Hid (∀ W, Calls Try.prog 64 #[.agg #[.string f, .string r], .agg #[.string f, .string r], .func (.func 68) #[] #[]] W fun e w' => e = .returned (.tuple #[.agg #[.string va, .string vb], .int .i64 vc]) ∧ Below W.heap.size W w') := Lib.hid (fun W => by
    have h := combined_any f r f r 68 (fun a _ => !a) W x1 x2 x1 x2 cf68 not_cl
    rw [hv] at h; exact h)
  clear hv
  go_enter Try.func27, Try.ntmps27
  go_wp2_with fail
  refine (HC.out _).mono ?_
  rintro e w1 ⟨rfl, hb1⟩
  have B1 : Hid (Below w.heap.size w w1) := Lib.hid ((((Below.refl _ _).alloc (Nat.le_refl _) _).alloc (by rw [size_al]; omega) _).trans (hb1.mono (by rw [size_al, size_al]; omega)))
  have c0 := below_at hb1 (b := w.heap.size + 1) (o := 0) (v := .string { data := #[] }) (by rw [size_al, size_al]; omega) (by simp [cell_al])
  have c1 := below_at hb1 (b := w.heap.size + 1) (o := 1) (v := .string { data := #[] }) (by rw [size_al, size_al]; omega) (by simp [cell_al])
  have f0 : w1.frozen? ⟨w.heap.size + 1, 0, none⟩ = false := (hb1.frozen (p := ⟨w.heap.size + 1, 0, none⟩) (by show _ + 1 < _; rw [size_al, size_al]; omega)).trans (by simp [frozen_al])
  have f1 : w1.frozen? ⟨w.heap.size + 1, 1, none⟩ = false := (hb1.frozen (p := ⟨w.heap.size + 1, 1, none⟩) (by show _ + 1 < _; rw [size_al, size_al]; omega)).trans (by simp [frozen_al])
  clear hb1
  go_wp2_with fail
  exact bodyPost_ret (v := .tuple #[.agg #[.string va, .string vb], .int .i64 vc]) (by simp [results, Try.results27, go_sem, c0, c1]) rfl ⟨by rw [HV.out], (B1.out.setCell (p := ⟨w.heap.size + 1, 0, none⟩) (by show _ ≤ _ + 1; omega) _).setCell (p := ⟨w.heap.size + 1, 1, none⟩) (by show _ ≤ _ + 1; omega) _⟩
end Go.Proofs.Ytbhlddfjfcmncaa
