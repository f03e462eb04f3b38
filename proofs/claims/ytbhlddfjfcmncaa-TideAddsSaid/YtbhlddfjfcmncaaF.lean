import Derived.Test.YtbhlddfjfcmncaaE
import Derived.Test.YtbhlddfjfcmncaaShelf
import Derived.WalkKit
import Derived.WalkSpells
import Derived.WalkLawsBesides
import Derived.BigQuiet
import Derived.Deep.QuietTactic
import Derived.Lib.Hide
import Derived.StillTailTactics
import Derived.Lib.SlBytesRow
import Derived.Deep.RegionHeld3
import Derived.Deep.LoopGhost
namespace Go.Proofs.Ytbhlddfjfcmncaa
open Go.RowKit
def findFrom (p : Nat → Bool) : Nat → Nat → Option Nat
  | 0, _ => none
  | fuel + 1, h => if p h then some h else findFrom p fuel (h + 1)
/-- the first hour of the tide that is not less than h -/
def nextO (f r : ByteArray) (h : Nat) : Option Nat := findFrom (hasB f r) (max h f.size + r.size - h) h
def nextV : Option Nat → Value
  | none => .tuple #[.int .i64 0, .bool false]
  | some h => .tuple #[.int .i64 h, .bool true]

set_option maxRecDepth 100000 in
set_option maxHeartbeats 1000000 in
theorem next_any (f r : ByteArray) (h : Nat) (w : World) (hf : f.size ≤ 60) (hr : r.size ≤ 60) (hr1 : 1 ≤ r.size) (hh : h ≤ 2000000000) :
    Calls Try.prog 74 #[.agg #[.string f, .string r], .int .i64 h] w fun e w' => e = .returned (nextV (nextO f r h)) ∧ Below w.heap.size w w' := by
  obtain ⟨E, hE⟩ : ∃ E : Nat, max (h : Int) (f.size : Int) + (r.size : Int) = (E : Int) := ⟨max h f.size + r.size, by omega⟩
  have hE1 : h ≤ E := by omega
  have hE2 : E ≤ 3000000000 := by omega
  have N0 : Hid (nextO f r h = findFrom (hasB f r) (E - h) h) := Lib.hid (by unfold nextO; rw [show max h f.size + r.size = E by omega])
  go_enter Try.func74, Try.ntmps74
  go_wp2_with fail
  go_step3
  go_wp2_with fail
  go_step3
  clear hE
  go_wp2_with fail
  go_loopw [7] (fun i wr => ∃ k : Nat, h ≤ k ∧ k ≤ E ∧ i = .int .i64 k ∧ Hid (nextO f r h = findFrom (hasB f r) (E - k) k) ∧ Hid (Below (w.heap.size + 1) (w.alloc (.cells #[.string f, .string r] 23)) wr)) (fun i _ => E - (intOf i).toNat)
  case atStart => exact ⟨h, Nat.le_refl _, hE1, rfl, N0, Lib.hid (Below.refl _ _)⟩
  case round =>
    obtain ⟨k, hk1, hk2, rfl, hN, hB⟩ := hrel
    have c0 := below_at hB.out (b := w.heap.size) (o := 0) (v := .string f) (by omega) (by simp)
    have c1 := below_at hB.out (b := w.heap.size) (o := 1) (v := .string r) (by omega) (by simp)
    by_cases hlt : k = E
    · subst hlt
      have F : Hid (nextO f r h = none) := Lib.hid (by rw [hN.out, Nat.sub_self]; rfl)
      go_wp2_with fail
      rw [Exit.noGoto_ret]
      go_ret2
      exact ⟨by rw [F.out]; rfl, ((Below.refl _ _).alloc (Nat.le_refl _) _).trans (hB.out.mono (by omega))⟩
    · have t1 : (((k : Nat) : Int) == (E : Int)) = false := beq_eq_false_iff_ne.2 (by omega)
      have HS : Hid (nextO f r h = if hasB f r k then some k else findFrom (hasB f r) (E - (k + 1)) (k + 1)) := Lib.hid (by
        rw [hN.out, show E - k = (E - (k + 1)) + 1 by omega, findFrom])
      have HH : Hid (∀ W, Calls Try.prog 58 #[.agg #[.string f, .string r], .int .i64 k] W fun e w' => e = .returned (.bool (hasB f r k)) ∧ Below W.heap.size W w') := Lib.hid (fun W => has_any f r k W hr1 (by omega))
      cases hb : hasB f r k
      · rw [hb] at HH HS
        go_wp2_with fail
        refine (HH.out _).mono ?_
        rintro e w1 ⟨rfl, hb1⟩
        have B1 : Hid (Below (w.heap.size + 1) (w.alloc (.cells #[.string f, .string r] 23)) w1) := Lib.hid (hB.out.trans (hb1.mono (by have := hB.out.size; rw [size_al] at this; exact this)))
        clear hb1 c0 c1
        go_wp2_with fail
        go_roundw
        case rel => exact ⟨k + 1, by omega, by omega, rfl, Lib.hid (by rw [HS.out]; rfl), B1⟩
        case measure => simp [intOf]; omega
      · rw [hb] at HH HS
        go_wp2_with fail
        refine (HH.out _).mono ?_
        rintro e w1 ⟨rfl, hb1⟩
        have B1 : Hid (Below (w.heap.size + 1) (w.alloc (.cells #[.string f, .string r] 23)) w1) := Lib.hid (hB.out.trans (hb1.mono (by have := hB.out.size; rw [size_al] at this; exact this)))
        clear hb1 c0 c1
        go_wp2_with fail
        rw [Exit.noGoto_ret]
        go_ret2
        exact ⟨by rw [HS.out]; rfl, ((Below.refl _ _).alloc (Nat.le_refl _) _).trans (B1.out.mono (by omega))⟩
theorem checkAtE_no {f r : ByteArray} {h : Int} (ht : tideB (f, r) = false) : checkAtE f r h = 10 := by unfold checkAtE; rw [ht]; rfl
theorem checkAtE_arg {f r : ByteArray} {h : Int} (ht : tideB (f, r) = true) (hh : ¬ (0 ≤ h ∧ h ≤ 1000000000)) : checkAtE f r h = 1 := by unfold checkAtE; rw [ht, if_pos rfl, if_neg hh]
theorem checkAtE_ok {f r : ByteArray} {h : Int} (ht : tideB (f, r) = true) (hh : 0 ≤ h ∧ h ≤ 1000000000) : checkAtE f r h = 0 := by unfold checkAtE; rw [ht, if_pos rfl, if_pos hh]

def waitV (h : Nat) : Option Nat → Value
  | none => .tuple #[.int .i64 0, .int .i64 4]
  | some k => .tuple #[.int .i64 ((k - h : Nat) : Int), .int .i64 0]

theorem findFrom_ge {p : Nat → Bool} : ∀ {n h k : Nat}, findFrom p n h = some k → h ≤ k ∧ k < h + n
  | 0, _, _, e => by cases e
  | n + 1, h, k, e => by
    unfold findFrom at e
    split at e
    · cases e; omega
    · have := findFrom_ge e; omega

set_option maxRecDepth 100000 in
set_option maxHeartbeats 1000000 in
theorem Wait_err (f r : ByteArray) (h : Int) (c : Int) (w : World) (hf : f.size ≤ 9223372036854775807) (hr : r.size ≤ 9223372036854775807) (hE : checkAtE f r h = c) (hc : (c != 0) = true) :
    Calls Try.prog 30 #[.agg #[.string f, .string r], .int .i64 h] w fun e w' => e = .returned (.tuple #[.int .i64 0, .int .i64 c]) ∧ Below w.heap.size w w' := by
  go_enter Try.func30, Try.ntmps30
  go_wp2_with fail
  refine (checkAt_any f r h _ hf hr).mono ?_
  rintro e w1 ⟨rfl, hb1⟩
  have B1 : Hid (Below w.heap.size w w1) := Lib.hid (((Below.refl _ _).alloc (Nat.le_refl _) _).trans (hb1.mono (by rw [size_al]; omega)))
  clear hb1
  go_wp2_with fail
  go_ret2
  exact ⟨rfl, B1.out⟩

set_option maxRecDepth 100000 in
set_option maxHeartbeats 1000000 in
theorem Wait_ok (f r : ByteArray) (h : Nat) (w : World) (ht : tideB (f, r) = true) (hh : h ≤ 1000000000) :
    Calls Try.prog 30 #[.agg #[.string f, .string r], .int .i64 h] w fun e w' => e = .returned (waitV h (nextO f r h)) ∧ Below w.heap.size w w' := by
  have E := checkAtE_ok ht ⟨Int.natCast_nonneg h, by omega⟩
  obtain ⟨z1, z2, z3⟩ := tideB_size ht
  have HN : Hid (∀ W, Calls Try.prog 74 #[.agg #[.string f, .string r], .int .i64 h] W fun e w' => e = .returned (nextV (nextO f r h)) ∧ Below W.heap.size W w') := Lib.hid (fun W => next_any f r h W z1 z2 z3 (by omega))
  clear ht
  go_enter Try.func30, Try.ntmps30
  go_wp2_with fail
  refine (checkAt_any f r h _ (size_le _ z1) (size_le _ z2)).mono ?_
  rintro e w1 ⟨rfl, hb1⟩
  have B1 : Hid (Below w.heap.size w w1) := Lib.hid (((Below.refl _ _).alloc (Nat.le_refl _) _).trans (hb1.mono (by rw [size_al]; omega)))
  have b0 := below_at hb1 (b := w.heap.size) (o := 0) (v := .string f) (by rw [size_al]; omega) (by simp [cell_al])
  have b1 := below_at hb1 (b := w.heap.size) (o := 1) (v := .string r) (by rw [size_al]; omega) (by simp [cell_al])
  clear hb1
  go_wp2_with fail
  refine (HN.out _).mono ?_
  rintro e w2 ⟨rfl, hb2⟩
  have B2 : Hid (Below w.heap.size w w2) := Lib.hid (B1.out.trans (hb2.mono B1.out.size))
  clear hb2 b0 b1 HN
  cases ho : nextO f r h with
  | none =>
    have Ho := Lib.hid ho
    clear ho
    unfold nextV
    go_wp2_with fail
    go_ret2
    exact ⟨by rw [Ho.out]; rfl, B2.out⟩
  | some k =>
    have hk := findFrom_ge ho
    have hk1 : h ≤ k := hk.1
    have hk2 : k ≤ 4000000000 := by omega
    have e1 : Hid (((k : Int) - (h : Int)) = ((k - h : Nat) : Int)) := Lib.hid (by omega)
    have Ho := Lib.hid ho
    clear hk ho
    unfold nextV
    go_wp2_with fail
    go_ret2
    exact ⟨by rw [Ho.out, e1.out]; rfl, B2.out⟩

def endB (r : ByteArray) : Bool := decide (0 ≤ Lib.indexByte r.data.toList 49)

set_option maxRecDepth 100000 in
set_option maxHeartbeats 1000000 in
theorem endless_any (f r : ByteArray) (w : World) :
    Calls Try.prog 77 #[.agg #[.string f, .string r]] w fun e w' => e = .returned (.bool (endB r)) ∧ Below w.heap.size w w' := by
  go_enter Try.func77, Try.ntmps77
  go_wp2_with fail
  refine (Try.strings_Contains_one r 49 _).mono ?_
  rintro e w1 ⟨rfl, rfl⟩
  go_wp2_with fail
  go_ret
  exact ⟨rfl, ((Below.refl _ _).alloc (Nat.le_refl _) _)⟩

set_option maxRecDepth 100000 in
set_option maxHeartbeats 1000000 in
theorem Endless_err (f r : ByteArray) (w : World) (hf : f.size ≤ 9223372036854775807) (hr : r.size ≤ 9223372036854775807) (ht : tideB (f, r) = false) :
    Calls Try.prog 33 #[.agg #[.string f, .string r]] w fun e w' => e = .returned (.tuple #[.bool false, .int .i64 10]) ∧ Below w.heap.size w w' := by
  have E := checkE_no ht
  clear ht
  go_enter Try.func33, Try.ntmps33
  go_wp2_with fail
  refine (check_one (w.heap.size + 1) _ f r _ (by simp [cell_al]) (by simp [cell_al]) hf hr).mono ?_
  rintro e w1 ⟨rfl, hb1⟩
  have B1 : Hid (Below w.heap.size w w1) := Lib.hid ((((Below.refl _ _).alloc (Nat.le_refl _) _).alloc (by rw [size_al]; omega) _).trans (hb1.mono (by rw [size_al, size_al]; omega)))
  clear hb1
  go_wp2_with fail
  go_ret2
  exact ⟨rfl, B1.out⟩

set_option maxRecDepth 100000 in
set_option maxHeartbeats 1000000 in
theorem Endless_ok (f r : ByteArray) (w : World) (ht : tideB (f, r) = true) :
    Calls Try.prog 33 #[.agg #[.string f, .string r]] w fun e w' => e = .returned (.tuple #[.bool (endB r), .int .i64 0]) ∧ Below w.heap.size w w' := by
  have E := checkE_ok ht
  obtain ⟨z1, z2, z3⟩ := tideB_size ht
  clear ht
  go_enter Try.func33, Try.ntmps33
  go_wp2_with fail
  refine (check_one (w.heap.size + 1) _ f r _ (by simp [cell_al]) (by simp [cell_al]) (size_le _ z1) (size_le _ z2)).mono ?_
  rintro e w1 ⟨rfl, hb1⟩
  have B1 : Hid (Below w.heap.size w w1) := Lib.hid ((((Below.refl _ _).alloc (Nat.le_refl _) _).alloc (by rw [size_al]; omega) _).trans (hb1.mono (by rw [size_al, size_al]; omega)))
  have b0 := below_at hb1 (b := w.heap.size) (o := 0) (v := .string f) (by rw [size_al, size_al]; omega) (by simp [cell_al])
  have b1 := below_at hb1 (b := w.heap.size) (o := 1) (v := .string r) (by rw [size_al, size_al]; omega) (by simp [cell_al])
  clear hb1
  go_wp2_with fail
  refine (endless_any f r _).mono ?_
  rintro e w2 ⟨rfl, hb2⟩
  have B2 : Hid (Below w.heap.size w w2) := Lib.hid (B1.out.trans (hb2.mono B1.out.size))
  clear hb2 b0 b1
  go_wp2_with fail
  go_ret2
  exact ⟨rfl, B2.out⟩
end Go.Proofs.Ytbhlddfjfcmncaa
