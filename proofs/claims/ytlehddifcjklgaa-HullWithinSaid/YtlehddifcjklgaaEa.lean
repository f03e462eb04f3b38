import Derived.Test.YtlehddifcjklgaaCp
import Derived.Test.YtlehddifcjklgaaCl
import Derived.Maps.OwnIn
import Derived.Maps.OwnSet
import Derived.Maps.AppendAt
import Derived.RangeFuncNested
import Derived.RangeFuncBound
import Derived.RangeFuncCalls
import Derived.RangeFuncLeaves
import Derived.Shelf.Abstract
import Derived.Shelf.RegionOpen
import Derived.WalkKit
import Derived.OwnWalkIn
import Derived.TacticsInMore
import Derived.LoopNIn
import Derived.LoopIn
import Derived.WalkMore
import Derived.Sort.QuietThIn
import Derived.Sort.QuietTacIn
import Derived.Sort.BigQuietIn
import Derived.WalkSpells
import Derived.WalkLawsBesides
import Derived.BigQuiet
import Derived.Deep.QuietTactic
import Derived.Lib.Hide
import Derived.Deep.RegionHeld3
import Derived.StillTailTactics
import Derived.Deep.LoopGhost
import Derived.Lib.IndexAny
namespace Go.Proofs.Ytlehddifcjklgaa
open Go.RowKit Go.Shelf
attribute [local go_sem] Oper.semAt_some
def cmpV (a b : Int) : Int := if a < b then -1 else if b < a then 1 else 0
/-- how points are compared: by their first numbers, then by their second ones -/
def ptCmp (p q : Pt) : Int := if cmpV p.1 q.1 ≠ 0 then cmpV p.1 q.1 else cmpV p.2 q.2
theorem ptCmp_neg (p q : Pt) : decide (ptCmp p q < 0) = befB p q := by
  unfold ptCmp cmpV befB
  rw [Bool.eq_iff_iff]
  simp only [Bool.or_eq_true, Bool.and_eq_true, decide_eq_true_eq]
  repeat' split
  all_goals omega
set_option maxRecDepth 100000 in
theorem isNaN_any (x : Int) (w : World) : Calls Try.prog 118 #[.int .i64 x] w fun e w' => e = .returned (.bool false) ∧ w' = w := by
  go_enter Try.func118, Try.ntmps118
  go_wp2_with fail
  go_ret
  exact ⟨rfl, rfl⟩
set_option maxRecDepth 100000 in
set_option maxHeartbeats 400000 in
theorem cmpc_any (x y : Int) (w : World) : Calls Try.prog 105 #[.int .i64 x, .int .i64 y] w fun e w' => e = .returned (.int .i64 (cmpV x y)) ∧ w' = w := by
  by_cases h1 : x < y
  · have d1 : decide (x < y) = true := decide_eq_true h1
    have e : cmpV x y = -1 := if_pos h1
    rw [e]
    clear e h1
    go_enter Try.func105, Try.ntmps105
    go_wp2_with fail
    refine (isNaN_any x w).mono ?_
    rintro e w1 ⟨rfl, rfl⟩
    go_wp2_with fail
    refine (isNaN_any y w1).mono ?_
    rintro e w2 ⟨rfl, rfl⟩
    go_wp2_with fail
    go_ret
    exact ⟨rfl, rfl⟩
  · have d1 : decide (x < y) = false := decide_eq_false h1
    by_cases h2 : y < x
    · have d2 : decide (y < x) = true := decide_eq_true h2
      have e : cmpV x y = 1 := by unfold cmpV; rw [if_neg h1, if_pos h2]
      rw [e]
      clear e h1 h2
      go_enter Try.func105, Try.ntmps105
      go_wp2_with fail
      refine (isNaN_any x w).mono ?_
      rintro e w1 ⟨rfl, rfl⟩
      go_wp2_with fail
      refine (isNaN_any y w1).mono ?_
      rintro e w2 ⟨rfl, rfl⟩
      go_wp2_with fail
      go_ret
      exact ⟨rfl, rfl⟩
    · have d2 : decide (y < x) = false := decide_eq_false h2
      have e : cmpV x y = 0 := by unfold cmpV; rw [if_neg h1, if_neg h2]
      rw [e]
      clear e h1 h2
      go_enter Try.func105, Try.ntmps105
      go_wp2_with fail
      refine (isNaN_any x w).mono ?_
      rintro e w1 ⟨rfl, rfl⟩
      go_wp2_with fail
      refine (isNaN_any y w1).mono ?_
      rintro e w2 ⟨rfl, rfl⟩
      go_wp2_with fail
      go_ret
      exact ⟨rfl, rfl⟩
set_option maxRecDepth 100000 in
set_option maxHeartbeats 1000000 in
theorem compare2_any (x1 x2 y1 y2 : Int) (g h : Nat) (w : World) (hx : Row w g 58 [.int .i64 x1, .int .i64 x2]) (hy : Row w h 58 [.int .i64 y1, .int .i64 y2]) :
    Calls Try.prog 86 #[.slice (some ⟨g, 0, none⟩) 2 2, .slice (some ⟨h, 0, none⟩) 2 2] w fun e w' => e = .returned (.int .i64 (ptCmp (x1, x2) (y1, y2))) ∧ w' = w := by
  obtain ⟨a0, a1, _, _⟩ := two_cells hx
  obtain ⟨b0, b1, _, _⟩ := two_cells hy
  have HC1 := Lib.hid (cmpc_any x1 y1)
  have HC2 := Lib.hid (cmpc_any x2 y2)
  obtain ⟨r, hr⟩ : ∃ r, ptCmp (x1, x2) (y1, y2) = r := ⟨_, rfl⟩
  rw [hr]
  unfold ptCmp at hr
  dsimp only at hr
  generalize cmpV x1 y1 = c1 at *
  generalize cmpV x2 y2 = c2 at *
  have HR := Lib.hid hr
  clear hr hx hy
  go_enter Try.func86, Try.ntmps86
  go_wp2_with fail
  go_loopw [11] (fun i wr => ∃ k : Nat, k ≤ 2 ∧ i = .int .i64 (k : Int) ∧ wr = w ∧ Hid ((1 ≤ k → c1 = 0) ∧ (2 ≤ k → c2 = 0))) (fun i _ => 2 - (intOf i).toNat)
  case atStart => exact ⟨0, by omega, rfl, rfl, Lib.hid ⟨fun h => by omega, fun h => by omega⟩⟩
  case round =>
    obtain ⟨k, hk, rfl, rfl, HK⟩ := hrel
    have hcase : k = 0 ∨ k = 1 ∨ k = 2 := by omega
    clear hk
    rcases hcase with rfl | rfl | rfl
    · go_wp2_with fail
      refine (HC1.out wr).mono ?_
      rintro e w1 ⟨rfl, rfl⟩
      by_cases hc : c1 = 0
      · have d1 : (c1 != 0) = false := by simp [hc]
        have HZ := Lib.hid hc
        clear hc
        go_wp2_with fail
        refine ⟨⟨1, by omega, rfl, trivial, Lib.hid ⟨fun _ => HZ.out, fun h => by omega⟩⟩, ?_⟩
        simp [intOf]
      · have d1 : (c1 != 0) = true := by simp [hc]
        have HZ := Lib.hid (show r = c1 by rw [← HR.out, if_pos hc])
        clear hc
        go_wp2_with fail
        refine bodyPost_ret (v := .int .i64 c1) (by simp [results, Try.results86, go_sem]) rfl ⟨by rw [HZ.out], rfl⟩
    · go_wp2_with fail
      refine (HC2.out wr).mono ?_
      rintro e w1 ⟨rfl, rfl⟩
      have h1 := HK.out.1 (by omega)
      by_cases hc : c2 = 0
      · have d1 : (c2 != 0) = false := by simp [hc]
        have HZ := Lib.hid hc
        clear hc h1
        go_wp2_with fail
        refine ⟨⟨2, by omega, rfl, trivial, Lib.hid ⟨fun _ => HK.out.1 (by omega), fun _ => HZ.out⟩⟩, ?_⟩
        simp [intOf]
      · have d1 : (c2 != 0) = true := by simp [hc]
        have HZ := Lib.hid (show r = c2 by rw [← HR.out, if_neg (by rw [h1]; simp)])
        clear hc h1
        go_wp2_with fail
        refine bodyPost_ret (v := .int .i64 c2) (by simp [results, Try.results86, go_sem]) rfl ⟨by rw [HZ.out], rfl⟩
    · have HZ := Lib.hid (show r = 0 by rw [← HR.out, if_neg (by rw [HK.out.1 (by omega)]; simp), HK.out.2 (by omega)])
      go_wp2_with fail
      refine bodyPost_ret (v := .int .i64 0) (by simp [results, Try.results86, go_sem]) rfl ⟨by rw [HZ.out], rfl⟩
set_option maxRecDepth 100000 in
set_option maxHeartbeats 1000000 in
theorem around1_any (x1 x2 y1 y2 : Int) (w : World) :
    Calls Try.prog 85 #[.agg #[.int .i64 x1, .int .i64 x2], .agg #[.int .i64 y1, .int .i64 y2]] w fun e w' => e = .returned (.int .i64 (ptCmp (x1, x2) (y1, y2))) ∧ Below w.heap.size w w' := by
  obtain ⟨V, hV, ⟨r1, r2⟩, hb⟩ := two_pts (W := w) x1 x2 y1 y2
  have HC := Lib.hid (fun (x : Kl V) => (show Calls Try.prog 86 #[.slice (some ⟨w.heap.size, 0, none⟩) 2 2, .slice (some ⟨w.heap.size + 1, 0, none⟩) 2 2] x.W fun e w' => e = .returned (.int .i64 (ptCmp (x1, x2) (y1, y2))) ∧ Below x.W.heap.size x.W w' from
    (compare2_any x1 x2 y1 y2 _ _ x.W (r1.below x.h r1.lt) (r2.below x.h r2.lt)).mono fun e w' ⟨h1, h2⟩ => ⟨h1, by rw [h2]; exact Below.refl _ _⟩))
  have HB := Lib.hid hb
  obtain ⟨r, hr⟩ : ∃ r, ptCmp (x1, x2) (y1, y2) = r := ⟨_, rfl⟩
  rw [hr] at HC ⊢
  clear hb hr r1 r2
  go_enter Try.func85, Try.ntmps85
  go_wp2_with fail
  rw [← hV]
  clear hV
  refine wp_region_below (by kernel_rfl) (by kernel_rfl) ?_
  go_big_quiet_step (fail)
  go_big_quiet_step (fail)
  go_big_quiet_step (first | (go_at_call 86; exact Kl.call (HC.out _)))
  repeat (go_big_quiet_step (fail))
  refine wpQuiet_nil ?_
  rintro _ ⟨wq, rfl⟩
  go_wp2_with fail
  go_ret
  exact ⟨rfl, Below.andThen HB.out wq.h (Nat.le_refl _)⟩
set_option maxRecDepth 100000 in
set_option maxHeartbeats 2000000 in
theorem len117_any (n : Nat) (w : World) (hcase : n = 0 ∨ n = 1 ∨ n = 2 ∨ n = 3 ∨ n = 4 ∨ n = 5 ∨ n = 6 ∨ n = 7 ∨ n = 8 ∨ n = 9 ∨ n = 10 ∨ n = 11 ∨ n = 12) : Calls Try.prog 117 #[.int .u64 (n : Int)] w fun e w' => (∃ v : Int, e = .returned (.int .i64 v)) ∧ w' = w := by
  rcases hcase with rfl | rfl | rfl | rfl | rfl | rfl | rfl | rfl | rfl | rfl | rfl | rfl | rfl
  all_goals
    go_enter Try.func117, Try.ntmps117
    go_wp2_with fail
    go_ret
    exact ⟨⟨_, rfl⟩, rfl⟩
set_option maxRecDepth 100000 in
set_option maxHeartbeats 1000000 in
theorem len64_any (n : Nat) (w : World) (h : n ≤ 12) : Calls Try.prog 104 #[.int .u64 (n : Int)] w fun e w' => (∃ v : Int, e = .returned (.int .i64 v)) ∧ Below w.heap.size w w' := by
  have hcase : n = 0 ∨ n = 1 ∨ n = 2 ∨ n = 3 ∨ n = 4 ∨ n = 5 ∨ n = 6 ∨ n = 7 ∨ n = 8 ∨ n = 9 ∨ n = 10 ∨ n = 11 ∨ n = 12 := by omega
  clear h
  go_enter Try.func104, Try.ntmps104
  go_wp2_with fail
  refine (len117_any n w hcase).mono ?_
  rintro e w1 ⟨⟨v, rfl⟩, rfl⟩
  go_wp2_with fail
  go_ret
  exact ⟨⟨_, rfl⟩, Below.refl _ _⟩
end Go.Proofs.Ytlehddifcjklgaa
