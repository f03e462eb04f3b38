import Derived.Test.YtbhlddfjfcmncaaJ
import Derived.Test.YtbhlddfjfcmncaaShelf
import Derived.RangeFuncNested
import Derived.RangeFuncBound
import Derived.RangeFuncCalls
import Derived.RangeFuncLeaves
import Derived.Shelf.Abstract
import Derived.Shelf.RegionOpen
import Derived.WalkKit
import Derived.OwnWalkIn
import Derived.TacticsInMore
import Derived.LoopNIn
import Derived.LoopIn
import Derived.WalkSpells
import Derived.WalkLawsBesides
import Derived.BigQuiet
import Derived.Deep.QuietTactic
import Derived.Lib.Hide
import Derived.Deep.RegionHeld3
import Derived.StillTailTactics
import Derived.Lib.MakeNoZero
import Derived.Laws.CopyOwn
import Derived.Deep.RegionLaw
import Derived.Deep.LoopGhost
namespace Go.Proofs.Ytbhlddfjfcmncaa
open Go.RowKit Go.Shelf
attribute [local go_sem] Oper.semAt_some
/-- the first bytes of row g -/
def RowN (w : World) (g : Nat) (l : List UInt8) (rest : List Value) : Prop := Row w g 5 (l.map encB ++ rest)
theorem RowN.atB {w : World} {g : Nat} {l : List UInt8} {rest : List Value} (h : RowN w g l rest) : AtB w g 0 l := fun i hi => by
  rw [Row.cell h, List.getElem?_append_left (by simpa using hi)]; simp [hi]
theorem RowN.set {w : World} {g : Nat} {l : List UInt8} {rest : List Value} (h : RowN w g l rest) (i : Nat) (c : UInt8) (hi : i < l.length) : RowN (w.setCell ⟨g, i, none⟩ (encB c)) g (l.set i c) rest := by
  have h2 := Row.set h i (encB c)
  unfold RowN
  rw [List.set_append_left _ _ (by simpa using hi), ← List.map_set] at h2
  exact h2
theorem RowN.below {B : Nat} {w w' : World} {g : Nat} {l : List UInt8} {rest : List Value} (h : RowN w g l rest) (hb : Below B w w') (hg : g < B) : RowN w' g l rest := Row.below h hb hg
theorem RowN.lt {w : World} {g : Nat} {l : List UInt8} {rest : List Value} (h : RowN w g l rest) : g < w.heap.size := Row.lt h
theorem RowN.frozen {w : World} {g : Nat} {l : List UInt8} {rest : List Value} (h : RowN w g l rest) (i : Nat) : w.frozen? ⟨g, i, none⟩ = false := Row.frozen h i
theorem RowN.cell {w : World} {g : Nat} {l : List UInt8} {rest : List Value} (h : RowN w g l rest) (i : Nat) (hi : i < l.length) : w.cell? ⟨g, i, none⟩ = some (encB l[i]) := by
  have := h.atB i hi; rwa [Nat.zero_add] at this

theorem row_setRow {w : World} {g : Nat} {vs : List Value} (h : Row w g 5 vs) (us : List Value) : Row (w.setRow g us.toArray) g 5 us := by
  unfold Row at h ⊢
  simp only [World.setRow, Array.getElem?_modify]
  rw [if_pos trivial, h]; rfl
theorem below_setRow {B g : Nat} {w W : World} (h : Below B w W) (hg : B ≤ g) (cs : Array Value) : Below B w (W.setRow g cs) := by
  refine h.trans ⟨rfl, rfl, rfl, by simp [World.setRow], fun k hk => ?_⟩
  simp only [World.setRow, Array.getElem?_modify]
  rw [if_neg (by omega)]

theorem sizeInfo5 : (Try.prog.info? 5).map (·.size) = some 1 := by kernel_rfl

set_option maxRecDepth 100000 in
set_option maxHeartbeats 1000000 in
theorem repeat_one (b c1 n : Nat) (c : UInt8) (w : World) (hn1 : 1 ≤ n) (hn2 : n ≤ 8192) (hc : w.cell? ⟨b, 0, none⟩ = some (encB c)) :
    Calls Try.prog 69 #[.slice (some ⟨b, 0, none⟩) 1 c1, .int .i64 n] w fun e w' => ∃ g rest, e = .returned (.slice (some ⟨g, 0, none⟩) n n) ∧ w.heap.size ≤ g ∧ RowN w' g (List.replicate n c) rest ∧ Below w.heap.size w w' := by
  have t1 : (((n : Nat) : Int) == 0) = false := beq_eq_false_iff_ne.2 (by omega)
  have u1 : IntKind.u64.wrap 1 = 1 := by decide
  have u2 : IntKind.u64.wrap (n : Int) = (n : Int) := by rw [IntKind.wrap_u64]; omega
  go_enter Try.func69, Try.ntmps69
  go_wp2_with fail
  have HM : Hid (Calls Try.prog 90 #[.int .u64 1, .int .u64 n] w fun e w' => e = .returned (.tuple #[.int .u64 0, .int .u64 (n : Int)]) ∧ w' = w) := Lib.hid (by
    have h := Try.bits_Mul 1 n (by omega) (by omega) w
    rw [Nat.one_mul, Nat.div_eq_of_lt (by omega), Nat.mod_eq_of_lt (by omega)] at h
    exact h)
  refine HM.out.mono ?_
  rintro e w1 ⟨rfl, rfl⟩
  obtain ⟨cs, hrunM, hle, _⟩ := Lib.run_makeNoZero (P := Try.prog) w1 #[3] 85 5 Try.underlying85 n (by omega)
  have hcall : (callFunc 91 #[.int .i64 (n : Int)]).run Try.prog w1 = .ok (.value (.slice (some ⟨w1.heap.size, 0, none⟩) n cs.size)) ((w1.alloc (.cells cs 5)).drewN 2) := by
    rw [run_callFunc_extern Try.func91 (by kernel_rfl) (by kernel_rfl) (by kernel_rfl) (e := Extern.BytealgMakeNoZero.makeNoZero #[3] #[85]) (by kernel_rfl), hrunM]
    rfl
  clear hrunM
  have u3 : IntKind.i64.wrap (n : Int) = (n : Int) := i64_nat n (by omega)
  have t2 : decide (8192 < (n : Int)) = false := decide_eq_false (by omega)
  have s1 := fun w => slice_to_to w1.heap.size 0 n cs.size n hle w
  have hrow : Row ((w1.alloc (.cells cs 5)).drewN 2) w1.heap.size 5 cs.toList := by
    have h := (Row.new w1 5 cs.toList).drewN 2; simpa using h
  have hbel : Below w1.heap.size w1 ((w1.alloc (.cells cs 5)).drewN 2) := below_drewN ((Below.refl _ _).alloc (Nat.le_refl _) _) 2
  have hcB : ((w1.alloc (.cells cs 5)).drewN 2).cell? ⟨b, 0, none⟩ = some (encB c) := below_at hbel (block_lt_of_cell hc) hc
  have Hrow := Lib.hid hrow
  have Hbel := Lib.hid hbel
  have HcB := Lib.hid hcB
  clear hrow hbel hcB
  have hcp : ∀ ty, (Builtin.copy_ #[85, 85] ty #[.slice (some ⟨w1.heap.size, 0, none⟩) n n, .slice (some ⟨b, 0, none⟩) 1 c1]).run Try.prog ((w1.alloc (.cells cs 5)).drewN 2) = .ok (.int .i64 1) (((w1.alloc (.cells cs 5)).drewN 2).setRow w1.heap.size ([encB c] ++ cs.toList.drop 1).toArray) := fun ty => by
    have h := run_copy_row (P := Try.prog) ((w1.alloc (.cells cs 5)).drewN 2) 85 85 ty 5 w1.heap.size 0 n n ⟨b, 0, none⟩ 1 c1 cs 5 [encB c] Try.underlying85 sizeInfo5 (by have := Hrow.out; unfold Row at this; simpa using this) (Nat.min_eq_left hn1).symm
      (by intro j v hj
          have hj0 : j = 0 := by
            have := (List.getElem?_eq_some_iff.1 hj).1; simp at this; omega
          subst hj0; simp at hj; subst hj; simpa [Addr.add] using HcB.out) (by simp; omega) (by intro v hv; simp at hv; subst hv; rfl)
    rw [h]; simp [goInt]
  obtain ⟨W2, hW2⟩ : ∃ W2, W2 = ((w1.alloc (.cells cs 5)).drewN 2).setRow w1.heap.size ([encB c] ++ cs.toList.drop 1).toArray := ⟨_, rfl⟩
  rw [← hW2] at hcp
  have R2 : Hid (RowN W2 w1.heap.size (List.replicate 1 c) (cs.toList.drop 1)) := Lib.hid (by
    rw [hW2]; exact row_setRow Hrow.out ([encB c] ++ cs.toList.drop 1))
  have B2 : Hid (Below w1.heap.size w1 W2) := Lib.hid (by
    rw [hW2]; exact below_setRow Hbel.out (Nat.le_refl _) _)
  clear hW2
  go_wp2_with fail
  clear hcp s1
  go_loopw [10, 11] (fun x _ wr => ∃ k : Nat, 1 ≤ k ∧ k ≤ n ∧ x = .int .i64 k ∧ Hid (∃ vs, RowN wr w1.heap.size (List.replicate k c) vs ∧ n ≤ k + vs.length) ∧ Hid (Below w1.heap.size w1 wr)) (fun x _ _ => n - (intOf x).toNat)
  case atStart => exact ⟨1, Nat.le_refl _, hn1, rfl, Lib.hid ⟨_, R2.out, by simp; omega⟩, B2⟩
  case round =>
    obtain ⟨k, hk1, hk2, rfl, hR, hB⟩ := hrel
    by_cases hlt : k < n
    · obtain ⟨vs, hrow, hlen⟩ := hR.out
      have m1 : min (k : Int) (n : Int) = (k : Int) := by omega
      have s2 := fun w => slice_from w1.heap.size 0 n n k hk2 hlt w
      have s3 := fun w => slice_to w1.heap.size 0 n n k hk2 w
      obtain ⟨j, hj⟩ : ∃ j, j = min k (n - k) := ⟨_, rfl⟩
      have j1 : 1 ≤ j := by omega
      have j2 : j ≤ k := by omega
      have j3 : k + j ≤ n := by omega
      have wkj : IntKind.i64.wrap ((k : Int) + (j : Int)) = ((k + j : Nat) : Int) := by rw [i64_of _ (by omega) (by omega)]; omega
      have HJ := Lib.hid hj
      clear hj
      have hcp : ∀ ty, (Builtin.copy_ #[85, 85] ty #[.slice (some ⟨w1.heap.size, k, none⟩) (n - k) (n - k), .slice (some ⟨w1.heap.size, 0, none⟩) k n]).run Try.prog wr.drew = .ok (.int .i64 j) (wr.drew.setRow w1.heap.size ((List.replicate (k + j) c).map encB ++ vs.drop j).toArray) := fun ty => by
        have hlj : ((List.replicate j c).map encB).length = j := by simp
        have h := run_copy_row (P := Try.prog) wr.drew 85 85 ty 5 w1.heap.size k (n - k) (n - k) ⟨w1.heap.size, 0, none⟩ k n ((List.replicate k c).map encB ++ vs).toArray 5 ((List.replicate j c).map encB) Try.underlying85 sizeInfo5 hrow
          (by rw [hlj]; exact HJ.out)
          (by intro i v hi
              have hij : i < j := by have := (List.getElem?_eq_some_iff.1 hi).1; rwa [hlj] at this
              have hc2 := hrow.cell i (by simp; omega)
              have hv : v = encB c := by
                have := (List.getElem?_eq_some_iff.1 hi).2; simp at this; exact this.symm
              rw [hv]
              have e : (⟨w1.heap.size, 0, none⟩ : Addr).add i = ⟨w1.heap.size, i, none⟩ := by unfold Addr.add; split <;> simp_all
              rw [e]
              show wr.cell? _ = _
              rw [hc2]; simp) (by rw [hlj]; simp; omega) (by intro v hv; simp at hv; rw [hv.2]; rfl)
        rw [h, hlj]
        have e1 : ((List.replicate k c).map encB ++ vs).toArray.toList.take k = (List.replicate k c).map encB := by simp
        have e2 : ((List.replicate k c).map encB ++ vs).toArray.toList.drop (k + j) = vs.drop j := by simp [List.drop_append]
        rw [e1, e2]
        simp [goInt]
      obtain ⟨W3, hW3⟩ : ∃ W3, W3 = wr.drew.setRow w1.heap.size ((List.replicate (k + j) c).map encB ++ vs.drop j).toArray := ⟨_, rfl⟩
      rw [← hW3] at hcp
      have HW3 := Lib.hid hW3
      have Hrow := Lib.hid hrow
      have Hlen := Lib.hid hlen
      clear hW3 hrow hlen
      go_wp2_with fail
      have B3 : Below w1.heap.size w1 W3 := by rw [HW3.out]; exact below_setRow hB.out.drew (Nat.le_refl _) _
      have B0 : Below w1.heap.size w1 wr.drew := hB.out.drew
      go_region_held3 (fun W => Below w1.heap.size w1 W)
        (first
          | exact B0
          | exact B3)
        (first
          | fail)
      have R3 : Hid (RowN W3 w1.heap.size (List.replicate (k + j) c) (vs.drop j)) := Lib.hid (by
        rw [HW3.out]; exact row_setRow (Hrow.out : Row wr w1.heap.size 5 _) ((List.replicate (k + j) c).map encB ++ vs.drop j))
      have B4 := Lib.hid B3
      clear B3 B0 hcp s2 s3
      go_wp2_with fail
      go_roundw
      case rel => exact ⟨k + j, by omega, j3, by first | rfl | go_num, Lib.hid ⟨_, R3.out, by rw [List.length_drop]; have := Hlen.out; omega⟩, B4⟩
      case measure => simp [intOf]; omega
    · obtain rfl : k = n := by omega
      obtain ⟨vs, hrow, _⟩ := hR.out
      have Hrow2 := Lib.hid hrow
      clear hrow
      go_wp2_with fail
      go_ret
      exact ⟨w1.heap.size, vs, rfl, Nat.le_refl _, Hrow2.out, hB.out⟩
end Go.Proofs.Ytbhlddfjfcmncaa
