import Derived.Test.YtbhlddfjfcmncaaW
import Derived.Test.YtbhlddfjfcmncaaR
import Derived.Test.YtbhlddfjfcmncaaIter
import Derived.Maps.OwnIn
import Derived.Maps.OwnSet
import Derived.Test.YtbhlddfjfcmncaaShelf
import Derived.RangeFuncNested
import Derived.RangeFuncBound
import Derived.RangeFuncCalls
import Derived.RangeFuncLeaves
import Derived.Shelf.Abstract
import Derived.Shelf.RegionOpen
import Derived.WalkKit
import Derived.OwnWalkIn
import Derived.TacticsInMore
import Derived.LoopNIn
import Derived.LoopIn
import Derived.WalkSpells
import Derived.WalkLawsBesides
import Derived.BigQuiet
import Derived.Deep.QuietTactic
import Derived.Lib.Hide
import Derived.Deep.RegionHeld3
import Derived.StillTailTactics
import Derived.Lib.MakeNoZero
import Derived.Laws.CopyOwn
import Derived.Deep.RegionLaw
import Derived.Deep.LoopGhost
import Derived.Lib.IndexAny
namespace Go.Proofs.Ytbhlddfjfcmncaa
open Go.RowKit Go.Shelf
attribute [local go_sem] Oper.semAt_some
def bitsL (s : ByteArray) (k : Nat) : List UInt8 := (s.data.toList.take k).map fun c => 48 + c % 2
theorem bitsL_length (s : ByteArray) (k : Nat) (h : k ≤ s.size) : (bitsL s k).length = k := by
  unfold bitsL; rw [List.length_map, List.length_take]; simp; omega
theorem bitsL_succ (s : ByteArray) (k : Nat) (h : k < s.size) : bitsL s (k + 1) = bitsL s k ++ [48 + s[k] % 2] := by
  unfold bitsL
  rw [List.take_succ_eq_append_getElem (by simpa using h), List.map_append]; rfl
theorem bit_val (c : UInt8) : IntKind.u8.wrap (48 + ((c.toNat : Nat) : Int).tmod 2) = (((48 + c % 2 : UInt8).toNat : Nat) : Int) := by
  rw [show ((2 : Int)) = ((2 : Nat) : Int) from rfl, ← Int.ofNat_tmod]
  have : c.toNat % 2 = 0 ∨ c.toNat % 2 = 1 := by omega
  rw [UInt8.toNat_add, UInt8.toNat_mod]
  rcases this with h | h <;> (rw [show (UInt8.toNat 2) = 2 from rfl, h]; rfl)
theorem bit_val2 (c : UInt8) : Value.int .u8 (48 + ((c.toNat : Nat) : Int) % 2) = encB (48 + c % 2) := by
  unfold encB
  have : c.toNat % 2 = 0 ∨ c.toNat % 2 = 1 := by omega
  rw [UInt8.toNat_add, UInt8.toNat_mod, show ((c.toNat : Nat) : Int) % 2 = ((c.toNat % 2 : Nat) : Int) by omega]
  rcases this with h | h <;> (rw [show (UInt8.toNat 2) = 2 from rfl, h]; rfl)
theorem ownsRow_atB {w : World} {g n : Nat} {cur : Array Value} {l : List UInt8} (h : w.heap[g]? = some (.cells cur 5 (0, 0))) (hl : cur.toList.take n = l.map encB) : AtB w g 0 l := by
  intro i hi
  rw [Nat.zero_add, cell_of_row _ _ _ _ _ _ h, ← Array.getElem?_toList]
  have h1 : (l.map encB)[i]? = some (encB l[i]) := by simp [hi]
  rw [← hl] at h1
  rw [List.getElem?_take] at h1
  split at h1
  · exact h1
  · cases h1
theorem conv_nil (w : World) : (convert 85 9 (.slice none 0 0)).run Try.prog w = .ok (.string (toS [])) w := by
  simp [go_sem, convert, Conv.bytesToString, toS]
  rfl
/-- what the bytes gathered become -/
theorem conv_own {w : World} {base n : Nat} {v : Value} {l : List UInt8} (hn : l.length = n) (h : w.ownsRow base 5 1 v n (l.map encB)) :
    (convert 85 9 v).run Try.prog w = .ok (.string (toS l)) w := by
  obtain ⟨_, h⟩ := h
  rcases h with ⟨rfl, rfl⟩ | ⟨g, cap, cur, rfl, _, hh, _, _, _, ht⟩
  · rw [List.eq_nil_of_length_eq_zero hn]; exact conv_nil w
  · rw [Nat.mul_one] at ht
    exact conv_any g 0 n cap l w hn (ownsRow_atB hh ht)
theorem Try.info5 : (Try.prog.info? 5).map (fun i => (i.zero, i.size, i.bytes)) = some (some (.int .u8 0), 1, 1) := by kernel_rfl

set_option maxRecDepth 100000 in
set_option maxHeartbeats 1000000 in
theorem bits_any (s : ByteArray) (most : Nat) (w : World) (hs : s.size ≤ 9223372036854775807) (hm : most ≤ 1000) :
    Calls Try.prog 82 #[.string s, .int .i64 most] w fun e w' => e = .returned (.string (toS (bitsL s (min s.size most)))) ∧ Below w.heap.size w w' := by
  obtain ⟨i0, hi, hz0, hz1, hz2⟩ := info_parts Try.info5
  have HI := Lib.hid hi
  have H0 := Lib.hid hz0
  have H1 := Lib.hid hz1
  have H2 := Lib.hid hz2
  clear hi hz0 hz1 hz2
  go_enter Try.func82, Try.ntmps82
  go_wp2
  go_loopw [5, 6] (fun v i wr => ∃ k : Nat, k ≤ min s.size most ∧ i = .int .i64 k ∧ Hid (wr.ownsRow w.heap.size 5 1 v k ((bitsL s k).map encB)) ∧ Hid (Below w.heap.size w wr) ) (fun _ i _ => s.size - (intOf i).toNat)
  case atStart => exact ⟨0, Nat.zero_le _, rfl, Lib.hid (World.ownsRow_nil _ _ _ _), Lib.hid (Below.refl _ _)⟩
  case round =>
    obtain ⟨k, hk, rfl, hown, hbel⟩ := hrel
    by_cases h1 : k < s.size
    · have h1' := h1
      by_cases h2 : k < most
      · have t1 : decide (k < s.size) = true := decide_eq_true h1
        have t2 : decide (k < most) = true := decide_eq_true h2
        have e1 := bit_val (s[k]'h1)
        have HK := Lib.hid hk
        have H12 := Lib.hid (And.intro h1 h2)
        have HL : Hid (bitsL s k ++ [48 + s[k]'h1 % 2] = bitsL s (k + 1)) := Lib.hid (bitsL_succ s k h1).symm
        clear hk h2
        generalize hB : (48 + s[k]'h1 % 2 : UInt8) = bb at *
        have HB := Lib.hid hB
        clear hB
        have OWN := Lib.hid hown.out
        have HE := Lib.hid (bit_val2 (s[k]'h1))
        rw [HB.out] at HE
        clear hown
        go_wp2_with (first
          | (at_builtin; refine wpList_append_own _ rfl _ _ 85 rfl w.heap.size 5 i0 (.int .u8 0) 1 1 Try.underlying85 HI.out H0.out H1.out H2.out rfl (by decide) _ _ _ rfl (OWN.out.alloc _) ⟨wr.heap.size, 0, none⟩ 1 1 [.int .u8 (48 + ((s[k]'h1).toNat : Int) % 2)] rfl rfl ?c1 ?c2 ?c3 ?c4 ?c5 ?_))
        case c1 =>
          intro j u hj
          match j, hj with
          | 0, hj => simp at hj; subst hj; simp [Addr.add]
        case c2 => intro u hu; simp at hu; subst hu; rfl
        case c3 => have := H12.out; unfold maxLen; omega
        case c4 => have := H12.out; omega
        case c5 => have := hbel.out.size; simp; omega
        · intro v' w1 hown' hgrow _
          have R1 : Hid (w1.ownsRow w.heap.size 5 1 v' (k + 1) ((bitsL s (k + 1)).map encB)) := Lib.hid (by
            rw [← HL.out, List.map_append]
            rw [HE.out] at hown'; exact hown')
          have R2 : Hid (Below w.heap.size w w1) := Lib.hid ((hbel.out.alloc hbel.out.size _).grown hgrow (by have := hbel.out.size; simp; omega) (fun j hj => (OWN.out.lt j hj).1))
          clear hown' hgrow OWN hbel e1 HB HE
          go_wp2
          go_roundw
          case rel => exact ⟨k + 1, by have := H12.out; omega, rfl, R1, R2⟩
          case measure => simp [intOf]; omega
      · have t1 : decide (k < s.size) = true := decide_eq_true h1
        have t2 : decide (k < most) = false := decide_eq_false h2
        have CV := conv_own (bitsL_length s k (by omega)) hown.out
        have HK : Hid (bitsL s k = bitsL s (min s.size most)) := Lib.hid (by rw [show min s.size most = k by omega])
        go_wp2
        go_ret
        exact ⟨by rw [← HK.out]; rfl, hbel.out⟩
    · have t1 : decide (k < s.size) = false := decide_eq_false h1
      have CV := conv_own (bitsL_length s k (by omega)) hown.out
      have HK : Hid (bitsL s k = bitsL s (min s.size most)) := Lib.hid (by rw [show min s.size most = k by omega])
      go_wp2
      go_ret
      exact ⟨by rw [← HK.out]; rfl, hbel.out⟩
end Go.Proofs.Ytbhlddfjfcmncaa
