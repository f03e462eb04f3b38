import Derived.Test.YtbhlddfjfcmncaaRows
import Derived.WalkKit
import Derived.WalkSpells
import Derived.WalkLawsBesides
import Derived.BigQuiet
import Derived.Deep.QuietTactic
import Derived.Lib.Hide
namespace Go.Proofs.Ytbhlddfjfcmncaa
open Go.RowKit
theorem i64_of (x : Int) (h : -4611686018427387904 ≤ x) (h' : x ≤ 4611686018427387903) : IntKind.i64.wrap x = x :=
  IntWalk.i64_in _ (by omega)
theorem ret_bool {a b : Bool} (h : a = b) : Ending.returned (.bool a) = .returned (.bool b) := by rw [h]
theorem ret_int {k : IntKind} {a b : Int} (h : a = b) : Ending.returned (.int k a) = .returned (.int k b) := by rw [h]
theorem drewN_drewN (w : World) (a b : Nat) : (w.drewN a).drewN b = w.drewN (a + b) := by
  unfold World.drewN; simp [Nat.add_assoc]
theorem drew_drewN (w : World) (a : Nat) : (w.drewN a).drew = w.drewN (a + 1) := by
  unfold World.drewN World.drew; simp [Nat.add_assoc]
theorem u8_eq (c : UInt8) (k : Nat) (hk : k < 256) : (((c.toNat : Nat) : Int) == (k : Int)) = (c == UInt8.ofNat k) := by
  rw [Bool.eq_iff_iff, beq_iff_eq, beq_iff_eq, ← UInt8.toNat_inj]
  simp [Nat.mod_eq_of_lt hk]; omega
theorem u8_eq49 (c : UInt8) : (((c.toNat : Nat) : Int) == 49) = (c == 49) := u8_eq c 49 (by omega)

/-- is this byte a mark? -/
def isMark (c : UInt8) : Bool := c == 48 || c == 49
def marksB (s : ByteArray) : Bool := decide (s.size ≤ 60) && s.data.toList.all isMark

def hasB (f r : ByteArray) (h : Nat) : Bool :=
  if h < f.size then (f.data.getD h 0) == 49 else (r.data.getD ((h - f.size) % r.size) 0) == 49

set_option maxHeartbeats 400000 in
theorem has_first (f r : ByteArray) (h : Nat) (w : World) (hlt : h < f.size) :
    Calls Try.prog 58 #[.agg #[.string f, .string r], .int .i64 h] w fun e w' => e = .returned (.bool (hasB f r h)) ∧ Below w.heap.size w w' := by
  go_enter Try.func58, Try.ntmps58
  go_wp2
  go_ret
  refine ⟨ret_bool ?_, (Below.refl _ _).alloc (Nat.le_refl _) _⟩
  rw [u8_eq49]; unfold hasB; rw [if_pos hlt]
  show (f[h] == 49) = _
  simp [Array.getD, hlt]; rfl

set_option maxHeartbeats 400000 in
theorem has_round (f r : ByteArray) (h : Nat) (w : World) (hr1 : 1 ≤ r.size) (hlt : f.size ≤ h) (hb : h ≤ 4000000000) :
    Calls Try.prog 58 #[.agg #[.string f, .string r], .int .i64 h] w fun e w' => e = .returned (.bool (hasB f r h)) ∧ Below w.heap.size w w' := by
  have e1 : IntKind.i64.wrap ((h : Int) - (f.size : Int)) = ((h - f.size : Nat) : Int) := by rw [i64_of _ (by omega) (by omega)]; omega
  have e2 : (((h - f.size : Nat) : Int)).tmod (r.size : Int) = (((h - f.size) % r.size : Nat) : Int) := by
    rw [← Int.ofNat_tmod]
  have e3 : (h - f.size) % r.size < r.size := Nat.mod_lt _ (by omega)
  have e4 : ¬ ((r.size : Int) = 0) := by omega
  have fin : hasB f r h = (r[(h - f.size) % r.size] == 49) := by
    unfold hasB; rw [if_neg (by omega)]
    simp [Array.getD, e3]; rfl
  have Fin := Lib.hid fin
  clear fin
  revert Fin
  generalize h - f.size = k at *
  generalize k % r.size = m at *
  intro Fin
  go_enter Try.func58, Try.ntmps58
  go_wp2
  go_quiet (fail)
  go_wp2
  go_ret
  exact ⟨ret_bool (by rw [Fin.out, u8_eq49]), below_drewN ((Below.refl _ _).alloc (Nat.le_refl _) _) _⟩

theorem has_any (f r : ByteArray) (h : Nat) (w : World) (hr1 : 1 ≤ r.size) (hb : h ≤ 4000000000) :
    Calls Try.prog 58 #[.agg #[.string f, .string r], .int .i64 h] w fun e w' => e = .returned (.bool (hasB f r h)) ∧ Below w.heap.size w w' := by
  by_cases hlt : h < f.size
  · exact has_first f r h w hlt
  · exact has_round f r h w hr1 (by omega) hb

def markU (b : Bool) : UInt8 := if b then 49 else 48

set_option maxHeartbeats 400000 in
theorem mark_any (b : Bool) (w : World) :
    Calls Try.prog 66 #[.bool b] w fun e w' => e = .returned (.int .u8 (markU b).toNat) ∧ w = w' := by
  cases b
  all_goals
    go_enter Try.func66, Try.ntmps66
    go_wp2
    go_ret
    exact ⟨rfl, rfl⟩

set_option maxHeartbeats 400000 in
theorem divisor_any (a b : Nat) (w : World) (ha : a ≤ 1000000) (hb : b ≤ 1000000) :
    Calls Try.prog 88 #[.int .i64 a, .int .i64 b] w fun e w' => e = .returned (.int .i64 (Nat.gcd a b)) ∧ ∃ n, w' = w.drewN n := by
  go_enter Try.func88, Try.ntmps88
  go_wp2
  go_loopw [0, 1] (fun x y wr => ∃ p q : Nat, p ≤ 1000000 ∧ q ≤ 1000000 ∧ Nat.gcd p q = Nat.gcd a b ∧ x = .int .i64 p ∧ y = .int .i64 q ∧ ∃ n, wr = w.drewN n) (fun _ y _ => (intOf y).toNat)
  case atStart => exact ⟨a, b, ha, hb, rfl, rfl, rfl, 0, rfl⟩
  case round =>
    obtain ⟨p, q, hp, hq, hg, rfl, rfl, n, rfl⟩ := hrel
    by_cases hz : q = 0
    · subst hz
      go_wp2
      go_ret
      exact ⟨ret_int (by rw [← hg]; simp), n, rfl⟩
    · have hb1 : (((q : Nat) : Int) != 0) = true := by simp; omega
      have e1 : ((p : Int)).tmod (q : Int) = ((p % q : Nat) : Int) := by rw [← Int.ofNat_tmod]
      have e2 : ¬ ((q : Int) = 0) := by omega
      have hm : p % q < q := Nat.mod_lt _ (by omega)
      have hg2 : Nat.gcd q (p % q) = Nat.gcd a b := by rw [← hg, Nat.gcd_comm p q, Nat.gcd_rec q p, Nat.gcd_comm]
      generalize p % q = m at *
      go_wp2
      go_quiet (fail)
      go_wp2
      go_roundw
      case rel => exact ⟨q, m, by omega, by omega, hg2, rfl, rfl, _, drewN_drewN _ _ _⟩
      case measure => simp [intOf]; omega

theorem width_pos (s : ByteArray) (pos : Nat) (h : pos < s.size) : 1 ≤ (Utf8.decode s pos).2 := by
  by_cases ha : (s[pos]'h).toNat < 128
  · rw [decode_ascii s pos h ha]
    exact Nat.le_refl _
  · exact (decode_high s pos h (by omega)).2

theorem below_iter (w : World) (s : ByteArray) (pos : Nat) : Below w.heap.size w (w.iter s pos) := (Below.refl _ _).alloc (Nat.le_refl _) _

theorem all_take_succ (s : ByteArray) (p : UInt8 → Bool) (k : Nat) (h : k < s.size) (h1 : (s.data.toList.take k).all p = true) (h2 : p s[k] = true) : (s.data.toList.take (k + 1)).all p = true := by
  rw [List.take_succ_eq_append_getElem (by simpa using h), List.all_append, h1]
  simp; exact h2

theorem all_false_of (s : ByteArray) (p : UInt8 → Bool) (k : Nat) (h : k < s.size) (h2 : p s[k] = false) : s.data.toList.all p = false := by
  rw [List.all_eq_false]
  exact ⟨s[k], by show s.data[k] ∈ _; simp, by simp [h2]⟩

/-- one step of a range over a string, in the round that goes on and the one that does not -/
theorem rune_cases (s : ByteArray) (pos : Nat) (h : pos < s.size) :
    (isMark s[pos] = true ∧ (((s[pos].toNat : Nat) : Int) = 48 ∨ ((s[pos].toNat : Nat) : Int) = 49)) ∨
    (isMark s[pos] = false ∧ ((Utf8.decode s pos).1 : Int) ≠ 48 ∧ ((Utf8.decode s pos).1 : Int) ≠ 49) := by
  by_cases ha : (s[pos]'h).toNat < 128
  · rw [decode_ascii s pos h ha]
    by_cases h8 : s[pos] = 48
    · exact .inl ⟨by simp [isMark, h8], .inl (by rw [h8]; rfl)⟩
    · by_cases h9 : s[pos] = 49
      · exact .inl ⟨by simp [isMark, h9], .inr (by rw [h9]; rfl)⟩
      · refine .inr ⟨by simp [isMark, h8, h9], ?_, ?_⟩
        · intro h; apply h8; rw [← UInt8.toNat_inj]; show _ = 48; simp at h; omega
        · intro h; apply h9; rw [← UInt8.toNat_inj]; show _ = 49; simp at h; omega
  · have := (decode_high s pos h (by omega)).1
    refine .inr ⟨?_, by omega, by omega⟩
    unfold isMark
    have h8 : ¬ s[pos] = 48 := by intro h; rw [h] at ha; exact ha (by decide)
    have h9 : ¬ s[pos] = 49 := by intro h; rw [h] at ha; exact ha (by decide)
    simp [h8, h9]

set_option maxHeartbeats 400000 in
theorem areMarks_any (s : ByteArray) (w : World) (_hs : s.size ≤ 9223372036854775807) :
    Calls Try.prog 87 #[.string s] w fun e w' => e = .returned (.bool (marksB s)) ∧ Below w.heap.size w w' := by
  by_cases hsz : s.size ≤ 60
  · go_enter Try.func87, Try.ntmps87
    go_wp2
    go_loopw [] (fun wr => ∃ pos : Nat, pos ≤ s.size ∧ (s.data.toList.take pos).all isMark = true ∧ wr = w.iter s pos) (fun wr => s.size - wr.iterPos w.heap.size)
    case atStart => exact ⟨0, Nat.zero_le _, rfl, rfl⟩
    case round =>
      obtain ⟨pos, hp, hall, rfl⟩ := hrel
      by_cases hlt : pos < s.size
      · rcases rune_cases s pos hlt with ⟨hm, hc⟩ | ⟨hm, hc1, hc2⟩
        · have hall2 := all_take_succ s isMark pos hlt hall hm
          have ha : (s[pos]'hlt).toNat < 128 := by omega
          have hnx : ∀ ty, (Instr.next (.pointer (some ⟨w.heap.size, 0, none⟩)) true ty).run Try.prog (w.iter s pos) = _ := fun ty => run_next_ascii w s pos ty hlt ha
          clear hm ha
          rcases hc with hc | hc
          · have t1 : (((s[pos].toNat : Nat) : Int) != 48) = false := by simp [hc]
            clear hc
            go_wp2
            go_roundw
            case rel => exact ⟨pos + 1, by omega, hall2, rfl⟩
            case measure => simp; omega
          · have t1 : (((s[pos].toNat : Nat) : Int) != 48) = true := by simp [hc]
            have t2 : (((s[pos].toNat : Nat) : Int) != 49) = false := by simp [hc]
            clear hc
            go_wp2
            go_roundw
            case rel => exact ⟨pos + 1, by omega, hall2, rfl⟩
            case measure => simp; omega
        · have hnx : ∀ ty, (Instr.next (.pointer (some ⟨w.heap.size, 0, none⟩)) true ty).run Try.prog (w.iter s pos) = _ := fun ty => run_next_any w s pos ty hlt
          have t1 : (((Utf8.decode s pos).1 : Int) != 48) = true := by simp; omega
          have t2 : (((Utf8.decode s pos).1 : Int) != 49) = true := by simp; omega
          have F : Hid (marksB s = false) := Lib.hid (by unfold marksB; rw [all_false_of s isMark pos hlt hm]; simp)
          clear hc1 hc2 hm hall
          go_wp2
          go_ret
          exact ⟨ret_bool F.out.symm, below_iter _ _ _⟩
      · have hnx : ∀ ty, (Instr.next (.pointer (some ⟨w.heap.size, 0, none⟩)) true ty).run Try.prog (w.iter s pos) = _ := fun ty => run_next_end w s pos ty hlt
        have F : Hid (marksB s = true) := Lib.hid (by
          unfold marksB; rw [List.take_of_length_le (by simp; omega)] at hall; rw [hall]; simp [hsz])
        clear hall
        go_wp2
        go_ret
        exact ⟨ret_bool F.out.symm, below_iter _ _ _⟩
  · have F : Hid (marksB s = false) := Lib.hid (by unfold marksB; simp; intro h; omega)
    go_enter Try.func87, Try.ntmps87
    go_wp2
    go_ret
    exact ⟨ret_bool F.out.symm, Below.refl _ _⟩

/-- how many bytes are '1' -/
def ones (l : List UInt8) : Nat := (l.filter (· == 49)).length

theorem ones_take_succ (s : ByteArray) (k : Nat) (h : k < s.size) : ones (s.data.toList.take (k + 1)) = ones (s.data.toList.take k) + if s[k] == 49 then 1 else 0 := by
  unfold ones
  rw [List.take_succ_eq_append_getElem (by simpa using h), List.filter_append, List.length_append]
  show _ + (List.filter (fun x => x == 49) [s[k]]).length = _
  cases hh : (s[k] == 49) <;> simp [hh]

set_option maxHeartbeats 400000 in
theorem count_any (s : ByteArray) (w : World) (hs : s.size ≤ 1000) (hm : s.data.toList.all isMark = true) :
    Calls Try.prog 75 #[.string s] w fun e w' => e = .returned (.int .i64 (ones s.data.toList)) ∧ Below w.heap.size w w' := by
  go_enter Try.func75, Try.ntmps75
  go_wp2
  go_loopw [3] (fun n wr => ∃ pos : Nat, pos ≤ s.size ∧ n = .int .i64 (ones (s.data.toList.take pos)) ∧ wr = w.iter s pos) (fun _ wr => s.size - wr.iterPos w.heap.size)
  case atStart => exact ⟨0, Nat.zero_le _, rfl, rfl⟩
  case round =>
    obtain ⟨pos, hp, rfl, rfl⟩ := hrel
    have hle : ones (s.data.toList.take pos) ≤ pos := by
      unfold ones; exact Nat.le_trans (List.length_filter_le _ _) (List.length_take_le _ _)
    by_cases hlt : pos < s.size
    · have hs1 := Lib.hid (ones_take_succ s pos hlt)
      have ha : (s[pos]'hlt).toNat < 128 := by
        have : isMark s[pos] = true := by
          rw [List.all_eq_true] at hm; exact hm _ (by show s.data[pos] ∈ _; simp)
        unfold isMark at this; simp at this
        rcases this with h | h <;> rw [h] <;> decide
      have hnx : ∀ ty, (Instr.next (.pointer (some ⟨w.heap.size, 0, none⟩)) true ty).run Try.prog (w.iter s pos) = _ := fun ty => run_next_ascii w s pos ty hlt ha
      have e9 := Lib.hid (u8_eq49 s[pos])
      cases hb : (((s[pos].toNat : Nat) : Int) == 49)
      all_goals
        have HB := Lib.hid hb
        go_wp2
        go_roundw
        case rel => exact ⟨pos + 1, by omega, by rw [hs1.out, ← e9.out, HB.out]; simp, rfl⟩
        case measure => simp; omega
    · have hnx : ∀ ty, (Instr.next (.pointer (some ⟨w.heap.size, 0, none⟩)) true ty).run Try.prog (w.iter s pos) = _ := fun ty => run_next_end w s pos ty hlt
      go_wp2
      go_ret
      exact ⟨ret_int (by rw [List.take_of_length_le (by simp; omega)]), below_iter _ _ _⟩
end Go.Proofs.Ytbhlddfjfcmncaa
