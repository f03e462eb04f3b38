import Derived.Test.YtbhlddfjfcmncaaK
import Derived.Test.YtbhlddfjfcmncaaShelf
import Derived.RangeFuncNested
import Derived.RangeFuncBound
import Derived.RangeFuncCalls
import Derived.RangeFuncLeaves
import Derived.Shelf.Abstract
import Derived.Shelf.RegionOpen
import Derived.WalkKit
import Derived.OwnWalkIn
import Derived.TacticsInMore
import Derived.LoopNIn
import Derived.LoopIn
import Derived.WalkSpells
import Derived.WalkLawsBesides
import Derived.BigQuiet
import Derived.Deep.QuietTactic
import Derived.Lib.Hide
import Derived.Deep.RegionHeld3
import Derived.StillTailTactics
import Derived.Lib.MakeNoZero
import Derived.Laws.CopyOwn
import Derived.Deep.RegionLaw
import Derived.Deep.LoopGhost
namespace Go.Proofs.Ytbhlddfjfcmncaa
open Go.RowKit Go.Shelf
attribute [local go_sem] Oper.semAt_some
/-- is there an hour of p some rounds earlier? -/
def rep (p : Nat → Bool) (r i : Nat) : Bool := (List.range (i / r + 1)).any fun j => p (i - j * r)
theorem rep_lt {p : Nat → Bool} {r i : Nat} (h : i < r) : rep p r i = p i := by
  unfold rep; rw [Nat.div_eq_of_lt h]; simp
theorem rep_ge {p : Nat → Bool} {r i : Nat} (hr : 1 ≤ r) (h : r ≤ i) : rep p r i = (p i || rep p r (i - r)) := by
  have hd : i / r = (i - r) / r + 1 := by rw [← Nat.sub_add_cancel h, Nat.add_div_right _ (by omega)]; simp
  unfold rep
  rw [hd, List.range_succ_eq_map]
  simp only [List.any_cons, List.any_map, Nat.zero_mul, Nat.sub_zero]
  congr 1
  apply congrArg (fun f => List.any (List.range ((i - r) / r + 1)) f)
  funext j
  simp only [Function.comp]
  rw [Nat.succ_mul, Nat.sub_sub, Nat.add_comm]

def marksOf (n : Nat) (p : Nat → Bool) : List UInt8 := (List.range n).map fun i => markU (p i)
theorem marksOf_length (n : Nat) (p : Nat → Bool) : (marksOf n p).length = n := by unfold marksOf; simp
theorem marksOf_get (n : Nat) (p : Nat → Bool) (i : Nat) (h : i < (marksOf n p).length) : (marksOf n p)[i] = markU (p i) := by simp [marksOf]
theorem marksOf_congr {n : Nat} {p q : Nat → Bool} (h : ∀ i, i < n → p i = q i) : marksOf n p = marksOf n q := by
  unfold marksOf; apply List.map_congr_left; intro i hi; rw [h i (by simpa using hi)]
theorem marksOf_set {n : Nat} {p q : Nat → Bool} {k : Nat} (_hk : k < n) (h : ∀ i, i < n → i ≠ k → p i = q i) : (marksOf n p).set k (markU (q k)) = marksOf n q := by
  apply List.ext_getElem
  · simp [marksOf_length]
  · intro i h1 h2
    rw [List.getElem_set, marksOf_get _ _ _ h2]
    by_cases e : k = i
    · subst e; simp
    · rw [if_neg e, marksOf_get, h i (by rw [marksOf_length] at h2; exact h2) (fun x => e x.symm)]

theorem toldL_marks (f r : ByteArray) (n : Nat) : toldL f r n = marksOf n (hasB f r) := rfl
theorem markU49 (b : Bool) : ((((markU b).toNat : Nat) : Int) == 49) = b := by cases b <;> rfl
theorem enc_byte (w : World) (a : Addr) (c : UInt8) (h : w.cell? a = some (encB c)) : w.cell? a = some (.int .u8 (c.toNat : Int)) := h

theorem ownsRow_some {w : World} {base n : Nat} {v : Value} {xs : List UInt8} (h : w.ownsRow base 5 1 v n ((xs.map fun c => ((c.toNat : Nat) : Int)).map (Value.int .u8))) (hv : v ≠ .slice none 0 0) (_hn : xs.length = n) :
    ∃ g cap rest, v = .slice (some ⟨g, 0, none⟩) n cap ∧ base ≤ g ∧ n ≤ cap ∧ RowN w g xs rest := by
  obtain ⟨_, h2⟩ := h
  rcases h2 with ⟨h3, _⟩ | ⟨g, cap, cur, hv2, hg, hh, hc1, hc2, hc3, hc4⟩
  · exact (hv h3).elim
  · refine ⟨g, cap, cur.toList.drop n, hv2, hg, hc1, ?_⟩
    unfold RowN Row
    have e : xs.map encB ++ cur.toList.drop n = cur.toList := by
      have : xs.map encB = cur.toList.take n := by
        rw [Nat.mul_one] at hc4; rw [hc4, List.map_map]; rfl
      rw [this, List.take_append_drop]
    rw [e]; simpa using hh

set_option maxRecDepth 100000 in
set_option maxHeartbeats 1000000 in
theorem repeated_any (b o c0 n r : Nat) (p : Nat → Bool) (w : World) (hn : n ≤ 100000) (hr1 : 1 ≤ r) (hr2 : r ≤ 100000) (hat : AtB w b o (marksOf n p)) :
    Calls Try.prog 93 #[.slice (some ⟨b, o, none⟩) n c0, .int .i64 r] w fun e w' => ∃ g cap rest, e = .returned (.slice (some ⟨g, 0, none⟩) n cap) ∧ w.heap.size ≤ g ∧ n ≤ cap ∧ RowN w' g (marksOf n (rep p r)) rest ∧ Below w.heap.size w w' := by
  have HC : Hid (Calls Try.prog 104 #[.slice (some ⟨b, o, none⟩) n c0] w fun e w' => ∃ g cap rest, e = .returned (.slice (some ⟨g, 0, none⟩) n cap) ∧ w.heap.size ≤ g ∧ n ≤ cap ∧ RowN w' g (marksOf n p) rest ∧ Below w.heap.size w w') := Lib.hid (by
    refine (Try.bytes_Clone_at ⟨b, o, none⟩ n c0 ((marksOf n p).map fun c => ((c.toNat : Nat) : Int)) w (by simp [marksOf_length]) (by omega) ?_).mono ?_
    · intro i hi
      have h := hat i (by rw [marksOf_length]; exact hi)
      have e : (⟨b, o, none⟩ : Addr).add i = ⟨b, o + i, none⟩ := by unfold Addr.add; split <;> simp_all
      rw [e, h]
      simp [encB, List.getD, marksOf_length, hi]
    · rintro e w' ⟨v', rfl, hown, hv, hb⟩
      obtain ⟨g, cap, rest, rfl, h1, h2, h3⟩ := ownsRow_some hown hv (marksOf_length n p)
      exact ⟨g, cap, rest, rfl, h1, h2, h3, hb⟩)
  clear hat
  go_enter Try.func93, Try.ntmps93
  go_wp2_with fail
  refine HC.out.mono ?_
  rintro e w1 ⟨g, cap, rest, rfl, hg, hcap, hrow, hb1⟩
  have R0 : Hid (RowN w1 g (marksOf n (fun i => if i < r then rep p r i else p i)) rest) := Lib.hid (by
    rw [marksOf_congr (q := p)]; exact hrow
    intro i _; split
    · exact rep_lt (by assumption)
    · rfl)
  have B1 := Lib.hid hb1
  clear hrow hb1 HC
  go_wp2_with fail
  go_loopw [6] (fun i wr => ∃ k : Nat, r ≤ k ∧ k ≤ 200000 ∧ i = .int .i64 k ∧ Hid (RowN wr g (marksOf n (fun i => if i < k then rep p r i else p i)) rest) ∧ Hid (Below w.heap.size w wr)) (fun i _ => n - (intOf i).toNat)
  case atStart => exact ⟨r, Nat.le_refl _, by omega, rfl, R0, B1⟩
  case round =>
    obtain ⟨k, hk1, hk2, rfl, hR, hB⟩ := hrel
    by_cases hlt : k < n
    · have cA := hR.out.cell (k - r) (by rw [marksOf_length]; omega)
      rw [marksOf_get, if_pos (by omega)] at cA
      have cB := hR.out.cell k (by rw [marksOf_length]; omega)
      rw [marksOf_get, if_neg (by omega)] at cB
      have fB := hR.out.frozen k
      have t49 := markU49 (rep p r (k - r))
      have RG := Lib.hid (rep_ge (p := p) hr1 hk1)
      unfold encB at cA cB
      have e1 : ((k : Int) - (r : Int)) = ((k - r : Nat) : Int) := by omega
      cases hb : rep p r (k - r)
      · rw [hb] at t49 cA
        have R2 : Hid (RowN wr g (marksOf n (fun i => if i < k + 1 then rep p r i else p i)) rest) := Lib.hid (by
          rw [marksOf_congr (q := fun i => if i < k then rep p r i else p i)]; exact hR.out
          intro i _
          show (if i < k + 1 then rep p r i else p i) = (if i < k then rep p r i else p i)
          by_cases h : i < k
          · rw [if_pos h, if_pos (by omega)]
          · rw [if_neg h]
            by_cases h2 : i < k + 1
            · obtain rfl : i = k := by omega
              rw [if_pos h2, RG.out, hb, Bool.or_false]
            · rw [if_neg h2])
        have Hb := Lib.hid hb
        clear hb cB fB
        go_wp2_with fail
        go_roundw
        case rel => exact ⟨k + 1, by omega, by omega, by go_num, R2, hB⟩
        case measure => simp [intOf]; omega
      · rw [hb] at t49 cA
        have R2 : Hid (RowN (wr.setCell ⟨g, k, none⟩ (encB 49)) g (marksOf n (fun i => if i < k + 1 then rep p r i else p i)) rest) := Lib.hid (by
          have h := hR.out.set k 49 (by rw [marksOf_length]; exact hlt)
          have e49 : (49 : UInt8) = markU ((fun i => if i < k + 1 then rep p r i else p i) k) := by
            show 49 = markU (if k < k + 1 then rep p r k else p k)
            rw [if_pos (by omega), RG.out, hb, Bool.or_true]; rfl
          rw [e49] at h
          rw [marksOf_set (q := fun i => if i < k + 1 then rep p r i else p i) hlt] at h
          · rw [← e49] at h; exact h
          · intro i _ hik
            show (if i < k then rep p r i else p i) = (if i < k + 1 then rep p r i else p i)
            by_cases h : i < k
            · rw [if_pos h, if_pos (by omega)]
            · rw [if_neg h, if_neg (by omega)])
        have Hb := Lib.hid hb
        clear hb
        go_wp2_with fail
        go_roundw
        case rel => exact ⟨k + 1, by omega, by omega, by go_num, R2, Lib.hid (hB.out.setCell (p := ⟨g, k, none⟩) hg _)⟩
        case measure => simp [intOf]; omega
    · have R2 : Hid (RowN wr g (marksOf n (rep p r)) rest) := Lib.hid (by
        rw [marksOf_congr (q := fun i => if i < k then rep p r i else p i)]; exact hR.out
        intro i hi
        show _ = (if i < k then rep p r i else p i)
        rw [if_pos (by omega)])
      go_wp2_with fail
      go_ret
      exact ⟨g, cap, rest, rfl, hg, hcap, R2.out, hB.out⟩
end Go.Proofs.Ytbhlddfjfcmncaa
