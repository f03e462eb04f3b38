import Derived.Test.YtlamppplnojpbaaKg
import Derived.Laws.AppendOwn
import Derived.ChangeKeysEq
import Derived.Maps.RangeWalk
import Derived.Maps.OwnIn
import Derived.Maps.AppendAt
import Derived.RangeFuncNested
import Derived.RangeFuncBound
import Derived.RangeFuncCalls
import Derived.RangeFuncLeaves
import Derived.Shelf.Abstract
import Derived.Shelf.RegionOpen
import Derived.WalkKit
import Derived.WalkMore
import Derived.OwnWalkIn
import Derived.TacticsInMore
import Derived.LoopNIn
import Derived.LoopIn
import Derived.WalkSpells
import Derived.WalkLawsBesides
import Derived.BigQuiet
import Derived.Deep.QuietTactic
import Derived.Lib.Hide
import Derived.Deep.RegionHeld3
import Derived.StillTailTactics
import Derived.Deep.LoopGhost
import Derived.Maps.OwnSet
import Derived.Lib.IndexAny
import Derived.Sort.QuietThIn
import Derived.Sort.QuietTacIn
import Derived.Sort.BigQuietIn
namespace Go.Proofs.Ytlamppplnojpbaa
open Go.RowKit Go.Shelf
attribute [local go_sem] Oper.semAt_some
def errT (a b amt : Int) : Int := if 1 ≤ min a b ∧ max a b ≤ 1000 ∧ 0 ≤ amt ∧ amt ≤ max a b then 0 else 1
set_option maxRecDepth 100000 in
set_option maxHeartbeats 400000 in
theorem checkTwo_any (a b amt : Int) (w : World) : Calls Try.prog 63 #[.int .i64 a, .int .i64 b, .int .i64 amt] w fun e w' => e = .returned (.int .i64 (errT a b amt)) ∧ w' = w := by
  go_enter Try.func63, Try.ntmps63
  go_wp2_with fail
  all_goals first
    | (have e1 : errT a b amt = 1 := by { unfold errT; rw [if_neg (by omega)] }
       rw [e1]
       go_ret
       exact ⟨rfl, rfl⟩)
    | (have e1 : errT a b amt = 0 := by { unfold errT; rw [if_pos (by omega)] }
       rw [e1]
       go_ret
       exact ⟨rfl, rfl⟩)
set_option maxRecDepth 100000 in
set_option maxHeartbeats 400000 in
theorem Two_err (a b amt : Int) (he : errT a b amt = 1) (w : World) : Calls Try.prog 41 #[.int .i64 a, .int .i64 b, .int .i64 amt] w fun e w' => e = .returned (.tuple #[.int .i64 0, .bool false, .int .i64 1]) ∧ Below w.heap.size w w' := by
  have HC := Lib.hid (checkTwo_any a b amt w)
  rw [he] at HC
  clear he
  go_enter Try.func41, Try.ntmps41
  go_wp2_with fail
  refine HC.out.mono ?_
  rintro e w1 ⟨rfl, rfl⟩
  clear HC
  go_wp2_with fail
  refine bodyPost_ret (v := .tuple #[.int .i64 0, .bool false, .int .i64 1]) (by simp [results, Try.results41, go_sem]) rfl ?_
  exact ⟨rfl, Below.refl _ _⟩
set_option maxRecDepth 100000 in
set_option maxHeartbeats 400000 in
theorem Two_ok (a b amt : Int) (he : errT a b amt = 0) (k : Nat) (hk : k ≤ 100000) (r1 r2 : List (Int × Int) × Bool) (h1 : ringL true a b amt k 0 0 [] = some r1) (h2 : ringL false a b amt k 0 0 [] = some r2) (w : World) :
    Calls Try.prog 41 #[.int .i64 a, .int .i64 b, .int .i64 amt] w fun e w' => e = .returned (.tuple #[.int .i64 (if r1.2 = true then ((min r1.1.length r2.1.length : Nat) : Int) else 0), .bool r1.2, .int .i64 0]) ∧ Below w.heap.size w w' := by
  have HC := Lib.hid (checkTwo_any a b amt w)
  rw [he] at HC
  have hab : (1 ≤ a ∧ a ≤ 1000) ∧ (1 ≤ b ∧ b ≤ 1000) := by
    unfold errT at he
    split at he
    · omega
    · cases he
  have H1 := Lib.hid (fun W => ring_true a b amt hab.1 hab.2 k hk r1 h1 W)
  have H2 := Lib.hid (fun W => ring_false a b amt hab.1 hab.2 k hk r2 h2 W)
  clear he h1 h2 hk hab
  obtain ⟨l1, b1⟩ := r1
  obtain ⟨l2, b2⟩ := r2
  dsimp only at H1 H2 ⊢
  go_enter Try.func41, Try.ntmps41
  go_wp2_with fail
  refine HC.out.mono ?_
  rintro e w1 ⟨rfl, rfl⟩
  clear HC
  go_wp2_with fail
  refine (H1.out w1).mono ?_
  rintro e w2 ⟨x, rfl, ⟨s, rfl, ho⟩, hb⟩
  obtain ⟨ad, c, rfl, _⟩ := OwnP.open ho
  have HB := Lib.hid hb
  clear ho hb H1
  cases b1 with
  | false =>
    go_wp2_with fail
    refine bodyPost_ret (v := .tuple #[.int .i64 0, .bool false, .int .i64 0]) (by simp [results, Try.results41, go_sem]) rfl ?_
    exact ⟨rfl, HB.out⟩
  | true =>
    go_wp2_with fail
    refine (H2.out w2).mono ?_
    rintro e w3 ⟨x, rfl, ⟨s, rfl, ho⟩, hb⟩
    obtain ⟨ad2, c2, rfl, _⟩ := OwnP.open ho
    have HB2 := Lib.hid hb
    clear ho hb H2
    rcases Nat.lt_or_ge l2.length l1.length with hle | hle
    · have EM := Lib.hid (Nat.min_eq_right (Nat.le_of_lt hle))
      go_wp2_with fail
      all_goals first
        | (exfalso; omega)
        | skip
      refine bodyPost_ret (v := .tuple #[.int .i64 (l2.length : Int), .bool true, .int .i64 0]) (by simp [results, Try.results41, go_sem]) rfl ?_
      refine ⟨?_, Below.andThen HB.out HB2.out (Nat.le_refl _)⟩
      simp [EM.out]
    · have EM := Lib.hid (Nat.min_eq_left hle)
      go_wp2_with fail
      all_goals first
        | (exfalso; omega)
        | skip
      refine bodyPost_ret (v := .tuple #[.int .i64 (l1.length : Int), .bool true, .int .i64 0]) (by simp [results, Try.results41, go_sem]) rfl ?_
      refine ⟨?_, Below.andThen HB.out HB2.out (Nat.le_refl _)⟩
      simp [EM.out]
set_option maxRecDepth 100000 in
set_option maxHeartbeats 400000 in
theorem TwoWay_err (a b amt : Int) (first : Bool) (he : errT a b amt = 1) (w : World) : Calls Try.prog 42 #[.int .i64 a, .int .i64 b, .int .i64 amt, .bool first] w fun e w' => e = .returned (.tuple #[.slice none 0 0, .bool false, .int .i64 1]) ∧ Below w.heap.size w w' := by
  have HC := Lib.hid (checkTwo_any a b amt w)
  rw [he] at HC
  clear he
  go_enter Try.func42, Try.ntmps42
  go_wp2_with fail
  refine HC.out.mono ?_
  rintro e w1 ⟨rfl, rfl⟩
  clear HC
  go_wp2_with fail
  refine bodyPost_ret (v := .tuple #[.slice none 0 0, .bool false, .int .i64 1]) (by simp [results, Try.results42, go_sem]) rfl ?_
  exact ⟨rfl, Below.refl _ _⟩
theorem ring_any (first : Bool) (a b amt : Int) (ha : 1 ≤ a ∧ a ≤ 1000) (hb : 1 ≤ b ∧ b ≤ 1000) (k0 : Nat) (hk0 : k0 ≤ 100000) (res : List (Int × Int) × Bool) (hres : ringL first a b amt k0 0 0 [] = some res) (w : World) :
    Calls Try.prog 64 #[.int .i64 a, .int .i64 b, .int .i64 amt, .bool first] w fun e w' => ∃ x, e = .returned x ∧ WayV w.heap.size res.1 res.2 x w' ∧ Below w.heap.size w w' := by
  cases first with
  | true => exact ring_true a b amt ha hb k0 hk0 res hres w
  | false => exact ring_false a b amt ha hb k0 hk0 res hres w
set_option maxRecDepth 100000 in
set_option maxHeartbeats 400000 in
theorem TwoWay_ok (a b amt : Int) (first : Bool) (he : errT a b amt = 0) (k : Nat) (hk : k ≤ 100000) (r : List (Int × Int) × Bool) (h1 : ringL first a b amt k 0 0 [] = some r) (w : World) :
    Calls Try.prog 42 #[.int .i64 a, .int .i64 b, .int .i64 amt, .bool first] w fun e w' => ∃ s, e = .returned (.tuple #[s, .bool r.2, .int .i64 0]) ∧ OwnP w' w.heap.size s r.1 ∧ Below w.heap.size w w' := by
  have HC := Lib.hid (checkTwo_any a b amt w)
  rw [he] at HC
  have hab : (1 ≤ a ∧ a ≤ 1000) ∧ (1 ≤ b ∧ b ≤ 1000) := by
    unfold errT at he
    split at he
    · omega
    · cases he
  have H1 := Lib.hid (fun W => ring_any first a b amt hab.1 hab.2 k hk r h1 W)
  clear he h1 hk hab
  obtain ⟨l1, b1⟩ := r
  dsimp only at H1 ⊢
  go_enter Try.func42, Try.ntmps42
  go_wp2_with fail
  refine HC.out.mono ?_
  rintro e w1 ⟨rfl, rfl⟩
  clear HC
  go_wp2_with fail
  refine (H1.out w1).mono ?_
  rintro e w2 ⟨x, rfl, ⟨s, rfl, ho⟩, hb⟩
  have HO := Lib.hid ho
  have HB := Lib.hid hb
  clear ho hb H1
  go_wp2_with fail
  refine bodyPost_ret (v := .tuple #[s, .bool b1, .int .i64 0]) (by simp [results, Try.results42, go_sem]) rfl ?_
  exact ⟨s, rfl, HO.out, HB.out⟩
end Go.Proofs.Ytlamppplnojpbaa
