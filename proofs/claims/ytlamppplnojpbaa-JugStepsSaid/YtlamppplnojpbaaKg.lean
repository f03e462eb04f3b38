import Derived.Test.YtlamppplnojpbaaKf
import Derived.Laws.AppendOwn
import Derived.ChangeKeysEq
import Derived.Maps.RangeWalk
import Derived.Maps.OwnIn
import Derived.Maps.AppendAt
import Derived.RangeFuncNested
import Derived.RangeFuncBound
import Derived.RangeFuncCalls
import Derived.RangeFuncLeaves
import Derived.Shelf.Abstract
import Derived.Shelf.RegionOpen
import Derived.WalkKit
import Derived.WalkMore
import Derived.OwnWalkIn
import Derived.TacticsInMore
import Derived.LoopNIn
import Derived.LoopIn
import Derived.WalkSpells
import Derived.WalkLawsBesides
import Derived.BigQuiet
import Derived.Deep.QuietTactic
import Derived.Lib.Hide
import Derived.Deep.RegionHeld3
import Derived.StillTailTactics
import Derived.Deep.LoopGhost
import Derived.Maps.OwnSet
import Derived.Lib.IndexAny
import Derived.Sort.QuietThIn
import Derived.Sort.QuietTacIn
import Derived.Sort.BigQuietIn
namespace Go.Proofs.Ytlamppplnojpbaa
open Go.RowKit Go.Shelf
attribute [local go_sem] Oper.semAt_some
set_option maxRecDepth 100000 in
set_option maxHeartbeats 2000000 in
theorem ring_false (a b amt : Int) (ha : 1 ≤ a ∧ a ≤ 1000) (hb : 1 ≤ b ∧ b ≤ 1000) (k0 : Nat) (hk0 : k0 ≤ 100000) (res : List (Int × Int) × Bool) (hres : ringL false a b amt k0 0 0 [] = some res) (w : World) :
    Calls Try.prog 64 #[.int .i64 a, .int .i64 b, .int .i64 amt, .bool false] w fun e w' => ∃ x, e = .returned x ∧ WayV w.heap.size res.1 res.2 x w' ∧ Below w.heap.size w w' := by
  obtain ⟨i0, hi, hz0, hz1, hz2⟩ := info_parts info48
  have HRES := Lib.hid hres
  have HJ := Lib.hid (jugsOf_two a b w)
  have HA := Lib.hid ha
  have HB := Lib.hid hb
  clear hres ha hb
  go_enter Try.func64, Try.ntmps64
  go_wp2_with fail
  refine HJ.out.mono ?_
  rintro e w1 ⟨rfl, hb⟩
  clear HJ
  have bj := (Below.refl w1.heap.size w1).alloc (Nat.le_refl _) (.cells #[.int .i64 2, .int .i64 a, .int .i64 b, .int .i64 0, .int .i64 0] 80)
  have zj := size_al w1 (.cells #[.int .i64 2, .int .i64 a, .int .i64 b, .int .i64 0, .int .i64 0] 80)
  have rj := Row.new w1 80 [.int .i64 2, .int .i64 a, .int .i64 b, .int .i64 0, .int .i64 0]
  obtain ⟨w2, hw2⟩ : ∃ w2, w1.alloc (.cells #[.int .i64 2, .int .i64 a, .int .i64 b, .int .i64 0, .int .i64 0] 80) = w2 := ⟨_, rfl⟩
  rw [hw2] at bj zj rj
  have bn := (Below.refl w2.heap.size w2).alloc (Nat.le_refl _) (.cells #[.int .i64 0, .int .i64 0, .int .i64 0, .int .i64 0] 77)
  have rn := Row.new w2 77 [.int .i64 0, .int .i64 0, .int .i64 0, .int .i64 0]
  rw [zj] at rn
  have RJ3 := Lib.hid (rj.below bn rj.lt)
  have RN3 := Lib.hid rn
  have B3 := Lib.hid (Below.andThen (Below.andThen hb bj (Nat.le_refl _)) bn (Nat.le_refl _))
  have BJ0 := Lib.hid hb.size
  rw [← hw2] at RJ3 RN3 B3
  clear hb bj zj rj bn rn hw2
  go_wp2_with fail
  go_loopg [14] k0 (fun g lv wr => ∃ (x y : Int) (way : List (Int × Int)), Hid ((0 ≤ x ∧ x ≤ a) ∧ (0 ≤ y ∧ y ≤ b) ∧ Row wr (w1.heap.size + 1) 77 [.int .i64 x, .int .i64 y, .int .i64 0, .int .i64 0] ∧ Row wr w1.heap.size 80 [.int .i64 2, .int .i64 a, .int .i64 b, .int .i64 0, .int .i64 0] ∧ wr.ownsRow w.heap.size 48 2 lv way.length (flatP way) ∧ Below w.heap.size w wr ∧ ringL false a b amt g x y way = some res ∧ way.length + g ≤ 100000))
  case atStart => exact ⟨0, 0, [], Lib.hid ⟨⟨Int.le_refl _, by have := HA.out; omega⟩, ⟨Int.le_refl _, by have := HB.out; omega⟩, RN3.out, RJ3.out, World.ownsRow_nil _ _ _ _, B3.out, HRES.out, by simpa using hk0⟩⟩
  case round =>
    clear RN3 RJ3 B3 HRES w2
    obtain ⟨x, y, way, HR⟩ := hrel
    have rn := HR.out.2.2.1
    have rj := HR.out.2.2.2.1
    have n0 : wr.cell? ⟨w1.heap.size + 1, 0, none⟩ = some (.int .i64 x) := rn.cell 0
    have n1 : wr.cell? ⟨w1.heap.size + 1, 1, none⟩ = some (.int .i64 y) := rn.cell 1
    have n2 : wr.cell? ⟨w1.heap.size + 1, 2, none⟩ = some (.int .i64 0) := rn.cell 2
    have n3 : wr.cell? ⟨w1.heap.size + 1, 3, none⟩ = some (.int .i64 0) := rn.cell 3
    have j0 : wr.cell? ⟨w1.heap.size, 0, none⟩ = some (.int .i64 2) := rj.cell 0
    have j1 : wr.cell? ⟨w1.heap.size, 1, none⟩ = some (.int .i64 a) := rj.cell 1
    have j2 : wr.cell? ⟨w1.heap.size, 2, none⟩ = some (.int .i64 b) := rj.cell 2
    have j3 : wr.cell? ⟨w1.heap.size, 3, none⟩ = some (.int .i64 0) := rj.cell 3
    have j4 : wr.cell? ⟨w1.heap.size, 4, none⟩ = some (.int .i64 0) := rj.cell 4
    have hh := holds_any 2 (by omega) a b 0 0 x y 0 0 amt wr
    rw [holds2] at hh
    have HH := Lib.hid hh
    clear rn rj hh
    go_wp2_with fail
    refine HH.out.mono ?_
    rintro e w3 ⟨rfl, hb3⟩
    clear HH n0 n1 n2 n3 j0 j1 j2 j3 j4
    by_cases hhold : x = amt ∨ y = amt
    · have hd : decide (x = amt ∨ y = amt) = true := decide_eq_true hhold
      have hr := ringL_hold HR.out.2.2.2.2.2.2.1 hhold
      rw [hd]
      subst hr
      have HO := Lib.hid (own_grow HR.out.2.2.2.2.1 hb3)
      have HW := Lib.hid (Below.andThen HR.out.2.2.2.2.2.1 hb3 (Nat.le_refl _))
      clear hhold hd hb3 HR
      go_wp2_with fail
      go_ret2
      refine ⟨_, rfl, ⟨u14, rfl, ?_⟩, HW.out⟩
      have h := HO.out
      rw [flatP_flat] at h
      exact h
    · have hd : decide (x = amt ∨ y = amt) = false := decide_eq_false hhold
      rw [hd]
      have HNH := Lib.hid hhold
      have rn := HR.out.2.2.1.below hb3 HR.out.2.2.1.lt
      have rj := HR.out.2.2.2.1.below hb3 HR.out.2.2.2.1.lt
      have HRN := Lib.hid rn
      have HRJ := Lib.hid rj
      have HO := Lib.hid (own_grow HR.out.2.2.2.2.1 hb3)
      have HW := Lib.hid (Below.andThen HR.out.2.2.2.2.2.1 hb3 (Nat.le_refl _))
      have bq := (Below.refl w3.heap.size w3).alloc (Nat.le_refl _) (.cells #[.int .i64 0, .int .i64 0] 48)
      have HQ0 := Lib.hid bq
      have rnq := rn.below bq rn.lt
      have rjq := rj.below bq rj.lt
      have n0 : (w3.alloc (.cells #[.int .i64 0, .int .i64 0] 48)).cell? ⟨w1.heap.size + 1, 0, none⟩ = some (.int .i64 x) := rnq.cell 0
      have n1 : (w3.alloc (.cells #[.int .i64 0, .int .i64 0] 48)).cell? ⟨w1.heap.size + 1, 1, none⟩ = some (.int .i64 y) := rnq.cell 1
      have j1 : (w3.alloc (.cells #[.int .i64 0, .int .i64 0] 48)).cell? ⟨w1.heap.size, 1, none⟩ = some (.int .i64 a) := rjq.cell 1
      have j2 : (w3.alloc (.cells #[.int .i64 0, .int .i64 0] 48)).cell? ⟨w1.heap.size, 2, none⟩ = some (.int .i64 b) := rjq.cell 2
      have HRNQ := Lib.hid rnq
      have HRQ := Lib.hid (Row.new w3 48 [.int .i64 0, .int .i64 0])
      have HRJQ := Lib.hid rjq
      clear hhold hd hb3 rn rj bq rnq rjq
      obtain ⟨nx, ny, hnx⟩ : ∃ nx ny, nxtF false a b x y = (nx, ny) := ⟨_, _, rfl⟩
      have hbx := nxt_ok false HA.out.1 HB.out.1 HR.out.1 HR.out.2.1
      rw [hnx] at hbx
      have HBX := Lib.hid hbx
      have hca : ∀ s : Int × Int, stpF false a b x y = s → ∀ W, Calls Try.prog 54 #[.agg #[.int .i64 2, .int .i64 a, .int .i64 b, .int .i64 0, .int .i64 0], .agg #[.int .i64 x, .int .i64 y, .int .i64 0, .int .i64 0], .agg #[.int .i64 s.1, .int .i64 s.2]] W fun e w' => e = .returned (.agg #[.int .i64 nx, .int .i64 ny, .int .i64 0, .int .i64 0]) ∧ Below W.heap.size W w' := fun s hs W => by
        have hok := stp_ok false a b x y
        have haf := stp_after false a b x y
        rw [hs] at hok haf
        have h := after_two 2 a b x y ⟨HR.out.1.1, HR.out.1.2, HA.out.2⟩ ⟨HR.out.2.1.1, HR.out.2.1.2, HB.out.2⟩ s.1 s.2 hok.1 hok.2.1 hok.2.2 W
        rw [haf, hnx] at h
        exact h
      have HNX := Lib.hid hnx
      have HCA := Lib.hid hca
      have HRL := Lib.hid HR.out.2.2.2.2.2.2
      clear hnx hbx hca HR
      by_cases hc1 : x = a
      · have hsp : stpF false a b x y = (0, -1) := by unfold stpF; simp [hc1]
        have HSP := Lib.hid hsp
        have hd1 : (x == a) = true := by simp [hc1]
        have hd2 : decide (x = a) = true := decide_eq_true hc1
        clear hc1 hsp
        go_wp2_with fail
        refine wp_region_rel (by kernel_rfl) (by kernel_rfl) [31, 32, 33, 34, 35, 36, 37, 38, 30] [LitR (.int .i64 0), LitR (.pointer (some ⟨w1.heap.size + 1, 0, none⟩)), LitR (.int .i64 x), LitR (.int .i64 0), LitR (.pointer (some ⟨w1.heap.size, 1, none⟩)), LitR (.pointer (some ⟨w1.heap.size, 1, none⟩)), LitR (.int .i64 a), LitR (.bool true), LitR (.bool true)] 9 rfl (List.forall_mem_cons.2 ⟨LitR.stab _, (List.forall_mem_cons.2 ⟨LitR.stab _, (List.forall_mem_cons.2 ⟨LitR.stab _, (List.forall_mem_cons.2 ⟨LitR.stab _, (List.forall_mem_cons.2 ⟨LitR.stab _, (List.forall_mem_cons.2 ⟨LitR.stab _, (List.forall_mem_cons.2 ⟨LitR.stab _, (List.forall_mem_cons.2 ⟨LitR.stab _, (List.forall_mem_cons.2 ⟨LitR.stab _, (fun _ h => nomatch h)⟩)⟩)⟩)⟩)⟩)⟩)⟩)⟩)⟩) ⟨[u31, u32, u33, u34, u35, u36, u37, u38, u30], by simp only [putAll, Act.put, List.setIfInBounds_toArray, List.set_cons_succ, List.set_cons_zero], rfl⟩ ?steps ?fin
        case steps =>
          simp only [relSteps]
          refine ⟨?_, ?_, ?_, ?_, ?_, ?_, ?_, ?_, ?_, trivial⟩
          · rintro vs W K hc hvl hw hK
            obtain ⟨x0, x1, x2, x3, x4, x5, x6, x7, x8, rfl⟩ := len9 hvl
            have HK := Lib.hid hK
            have HC := Lib.hid hc
            have HW := Lib.hid hw
            clear hK hc hw hvl
            simp only [putAll, Act.put, List.setIfInBounds_toArray, List.set_cons_succ, List.set_cons_zero]
            clear HW
            go_wp2_with fail
            have fin := HK.out (.int .i64 0) W (Below.refl _ _) rfl
            simp only [putAll, Act.put, List.setIfInBounds_toArray, List.set_cons_succ, List.set_cons_zero] at fin
            exact fin
          · rintro vs W K hc hvl hw hK
            obtain ⟨x0, x1, x2, x3, x4, x5, x6, x7, x8, rfl⟩ := len9 hvl
            have HK := Lib.hid hK
            have HC := Lib.hid hc
            have HW := Lib.hid hw
            clear hK hc hw hvl
            have hd0 := HW.out ⟨0, .data⟩ (by simp) rfl
            obtain rfl : x0 = .int .i64 0 := rel_get hd0 rfl
            simp only [putAll, Act.put, List.setIfInBounds_toArray, List.set_cons_succ, List.set_cons_zero]
            clear HW hd0
            go_wp2_with fail
            have fin := HK.out (.pointer (some ⟨w1.heap.size + 1, 0, none⟩)) W (Below.refl _ _) rfl
            simp only [putAll, Act.put, List.setIfInBounds_toArray, List.set_cons_succ, List.set_cons_zero] at fin
            exact fin
          · rintro vs W K hc hvl hw hK
            obtain ⟨x0, x1, x2, x3, x4, x5, x6, x7, x8, rfl⟩ := len9 hvl
            have HK := Lib.hid hK
            have HC := Lib.hid hc
            have HW := Lib.hid hw
            clear hK hc hw hvl
            have hd1 := HW.out ⟨1, .data⟩ (by simp) rfl
            obtain rfl : x1 = .pointer (some ⟨w1.heap.size + 1, 0, none⟩) := rel_get hd1 rfl
            simp only [putAll, Act.put, List.setIfInBounds_toArray, List.set_cons_succ, List.set_cons_zero]
            have rr := HRNQ.out.below HC.out HRNQ.out.lt
            have c : W.cell? ⟨w1.heap.size + 1, 0, none⟩ = some (.int .i64 x) := rr.cell 0
            clear rr
            clear HW hd1
            go_wp2_with fail
            have fin := HK.out (.int .i64 x) W (Below.refl _ _) rfl
            simp only [putAll, Act.put, List.setIfInBounds_toArray, List.set_cons_succ, List.set_cons_zero] at fin
            exact fin
          · rintro vs W K hc hvl hw hK
            obtain ⟨x0, x1, x2, x3, x4, x5, x6, x7, x8, rfl⟩ := len9 hvl
            have HK := Lib.hid hK
            have HC := Lib.hid hc
            have HW := Lib.hid hw
            clear hK hc hw hvl
            simp only [putAll, Act.put, List.setIfInBounds_toArray, List.set_cons_succ, List.set_cons_zero]
            clear HW
            go_wp2_with fail
            have fin := HK.out (.int .i64 0) W (Below.refl _ _) rfl
            simp only [putAll, Act.put, List.setIfInBounds_toArray, List.set_cons_succ, List.set_cons_zero] at fin
            exact fin
          · rintro vs W K hc hvl hw hK
            obtain ⟨x0, x1, x2, x3, x4, x5, x6, x7, x8, rfl⟩ := len9 hvl
            have HK := Lib.hid hK
            have HC := Lib.hid hc
            have HW := Lib.hid hw
            clear hK hc hw hvl
            simp only [putAll, Act.put, List.setIfInBounds_toArray, List.set_cons_succ, List.set_cons_zero]
            clear HW
            go_wp2_with fail
            have fin := HK.out (.pointer (some ⟨w1.heap.size, 1, none⟩)) W (Below.refl _ _) rfl
            simp only [putAll, Act.put, List.setIfInBounds_toArray, List.set_cons_succ, List.set_cons_zero] at fin
            exact fin
          · rintro vs W K hc hvl hw hK
            obtain ⟨x0, x1, x2, x3, x4, x5, x6, x7, x8, rfl⟩ := len9 hvl
            have HK := Lib.hid hK
            have HC := Lib.hid hc
            have HW := Lib.hid hw
            clear hK hc hw hvl
            have hd4 := HW.out ⟨4, .data⟩ (by simp) rfl
            obtain rfl : x4 = .pointer (some ⟨w1.heap.size, 1, none⟩) := rel_get hd4 rfl
            have hd3 := HW.out ⟨3, .data⟩ (by simp) rfl
            obtain rfl : x3 = .int .i64 0 := rel_get hd3 rfl
            simp only [putAll, Act.put, List.setIfInBounds_toArray, List.set_cons_succ, List.set_cons_zero]
            clear HW hd3 hd4
            go_wp2_with fail
            have fin := HK.out (.pointer (some ⟨w1.heap.size, 1, none⟩)) W (Below.refl _ _) rfl
            simp only [putAll, Act.put, List.setIfInBounds_toArray, List.set_cons_succ, List.set_cons_zero] at fin
            exact fin
          · rintro vs W K hc hvl hw hK
            obtain ⟨x0, x1, x2, x3, x4, x5, x6, x7, x8, rfl⟩ := len9 hvl
            have HK := Lib.hid hK
            have HC := Lib.hid hc
            have HW := Lib.hid hw
            clear hK hc hw hvl
            have hd5 := HW.out ⟨5, .data⟩ (by simp) rfl
            obtain rfl : x5 = .pointer (some ⟨w1.heap.size, 1, none⟩) := rel_get hd5 rfl
            simp only [putAll, Act.put, List.setIfInBounds_toArray, List.set_cons_succ, List.set_cons_zero]
            have rr := HRJQ.out.below HC.out HRJQ.out.lt
            have c : W.cell? ⟨w1.heap.size, 1, none⟩ = some (.int .i64 a) := rr.cell 1
            clear rr
            clear HW hd5
            go_wp2_with fail
            have fin := HK.out (.int .i64 a) W (Below.refl _ _) rfl
            simp only [putAll, Act.put, List.setIfInBounds_toArray, List.set_cons_succ, List.set_cons_zero] at fin
            exact fin
          · rintro vs W K hc hvl hw hK
            obtain ⟨x0, x1, x2, x3, x4, x5, x6, x7, x8, rfl⟩ := len9 hvl
            have HK := Lib.hid hK
            have HC := Lib.hid hc
            have HW := Lib.hid hw
            clear hK hc hw hvl
            have hd2 := HW.out ⟨2, .data⟩ (by simp) rfl
            obtain rfl : x2 = .int .i64 x := rel_get hd2 rfl
            have hd6 := HW.out ⟨6, .data⟩ (by simp) rfl
            obtain rfl : x6 = .int .i64 a := rel_get hd6 rfl
            simp only [putAll, Act.put, List.setIfInBounds_toArray, List.set_cons_succ, List.set_cons_zero]
            clear HW hd2 hd6
            go_wp2_with fail
            have fin := HK.out (.bool true) W (Below.refl _ _) rfl
            simp only [putAll, Act.put, List.setIfInBounds_toArray, List.set_cons_succ, List.set_cons_zero] at fin
            exact fin
          · rintro vs W K hc hvl hw hK
            obtain ⟨x0, x1, x2, x3, x4, x5, x6, x7, x8, rfl⟩ := len9 hvl
            have HK := Lib.hid hK
            have HC := Lib.hid hc
            have HW := Lib.hid hw
            clear hK hc hw hvl
            have hd7 := HW.out ⟨7, .data⟩ (by simp) rfl
            obtain rfl : x7 = .bool true := rel_get hd7 rfl
            simp only [putAll, Act.put, List.setIfInBounds_toArray, List.set_cons_succ, List.set_cons_zero]
            clear HW hd7
            go_wp2_with fail
            have fin := HK.out (.bool true) W (Below.refl _ _) rfl
            simp only [putAll, Act.put, List.setIfInBounds_toArray, List.set_cons_succ, List.set_cons_zero] at fin
            exact fin
        case fin =>
          intro vs W hc hvl hv
          obtain ⟨x0, x1, x2, x3, x4, x5, x6, x7, x8, rfl⟩ := len9 hvl
          have hd8 := hv 8 (by omega)
          obtain rfl : x8 = .bool true := rel_get hd8 rfl
          clear hd8
          simp only [putAll, Act.put, List.setIfInBounds_toArray, List.set_cons_succ, List.set_cons_zero]
          have HQ1 := Lib.hid hc
          clear hv hc hvl
          have rq := HRQ.out.below HQ1.out HRQ.out.lt
          have q0 : W.cell? ⟨w3.heap.size, 0, none⟩ = some (.int .i64 0) := rq.cell 0
          have q1 : W.cell? ⟨w3.heap.size, 1, none⟩ = some (.int .i64 0) := rq.cell 1
          have z0 := frozen_of_row W w3.heap.size 0 _ _ rq
          have z1 := frozen_of_row W w3.heap.size 1 _ _ rq
          have G1 := one_set W w3.heap.size 0 (.int .i64 (0))
          have G2 := one_set (W.setCell ⟨w3.heap.size, 0, none⟩ (.int .i64 (0))) w3.heap.size 1 (.int .i64 (-1))
          have hjl := HRJQ.out.lt
          have hnl := HRNQ.out.lt
          have hj3 := HRJ.out.lt
          have hn3 := HRN.out.lt
          have rj5 : Row ((W.setCell ⟨w3.heap.size, 0, none⟩ (.int .i64 0)).setCell ⟨w3.heap.size, 1, none⟩ (.int .i64 (-1))) w1.heap.size 80 [.int .i64 2, .int .i64 a, .int .i64 b, .int .i64 0, .int .i64 0] := ((HRJQ.out.below HQ1.out hjl).kept G1 (fun e => by have := Option.some.inj e; omega)).kept G2 (fun e => by have := Option.some.inj e; omega)
          have rn5 : Row ((W.setCell ⟨w3.heap.size, 0, none⟩ (.int .i64 0)).setCell ⟨w3.heap.size, 1, none⟩ (.int .i64 (-1))) (w1.heap.size + 1) 77 [.int .i64 x, .int .i64 y, .int .i64 0, .int .i64 0] := ((HRNQ.out.below HQ1.out hnl).kept G1 (fun e => by have := Option.some.inj e; omega)).kept G2 (fun e => by have := Option.some.inj e; omega)
          have rq5 : Row ((W.setCell ⟨w3.heap.size, 0, none⟩ (.int .i64 0)).setCell ⟨w3.heap.size, 1, none⟩ (.int .i64 (-1))) w3.heap.size 48 [.int .i64 0, .int .i64 (-1)] := (rq.set 0 (.int .i64 0)).set 1 (.int .i64 (-1))
          have ho5 : World.ownsRow ((W.setCell ⟨w3.heap.size, 0, none⟩ (.int .i64 0)).setCell ⟨w3.heap.size, 1, none⟩ (.int .i64 (-1))) w.heap.size 48 2 u14 way.length (flatP way) := ((own_grow (own_grow HO.out HQ0.out) HQ1.out).kept G1 (own_ne HO.out (by omega))).kept G2 (own_ne HO.out (by omega))
          have hb5 : Below w.heap.size w ((W.setCell ⟨w3.heap.size, 0, none⟩ (.int .i64 0)).setCell ⟨w3.heap.size, 1, none⟩ (.int .i64 (-1))) := ((Below.andThen (Below.andThen HW.out HQ0.out (Nat.le_refl _)) HQ1.out (Nat.le_refl _)).grown G1 (by have := HW.out.size; have := HQ0.out.size; have := HQ1.out.size; omega) (fun k e => by have := Option.some.inj e; have := HW.out.size; omega)).grown G2 (by have := HW.out.size; have := HQ0.out.size; have := HQ1.out.size; have := G1.size; omega) (fun k e => by have := Option.some.inj e; have := HW.out.size; omega)
          have nf : W.cell? ⟨w1.heap.size + 1, 1, none⟩ = some (.int .i64 y) := (HRNQ.out.below HQ1.out HRNQ.out.lt).cell 1
          clear G1 G2 hjl hnl hj3 hn3
          have j0 : ((W.setCell ⟨w3.heap.size, 0, none⟩ (.int .i64 0)).setCell ⟨w3.heap.size, 1, none⟩ (.int .i64 (-1))).cell? ⟨w1.heap.size, 0, none⟩ = some (.int .i64 2) := rj5.cell 0
          have j1 : ((W.setCell ⟨w3.heap.size, 0, none⟩ (.int .i64 0)).setCell ⟨w3.heap.size, 1, none⟩ (.int .i64 (-1))).cell? ⟨w1.heap.size, 1, none⟩ = some (.int .i64 a) := rj5.cell 1
          have j2 : ((W.setCell ⟨w3.heap.size, 0, none⟩ (.int .i64 0)).setCell ⟨w3.heap.size, 1, none⟩ (.int .i64 (-1))).cell? ⟨w1.heap.size, 2, none⟩ = some (.int .i64 b) := rj5.cell 2
          have j3 : ((W.setCell ⟨w3.heap.size, 0, none⟩ (.int .i64 0)).setCell ⟨w3.heap.size, 1, none⟩ (.int .i64 (-1))).cell? ⟨w1.heap.size, 3, none⟩ = some (.int .i64 0) := rj5.cell 3
          have j4 : ((W.setCell ⟨w3.heap.size, 0, none⟩ (.int .i64 0)).setCell ⟨w3.heap.size, 1, none⟩ (.int .i64 (-1))).cell? ⟨w1.heap.size, 4, none⟩ = some (.int .i64 0) := rj5.cell 4
          have n0 : ((W.setCell ⟨w3.heap.size, 0, none⟩ (.int .i64 0)).setCell ⟨w3.heap.size, 1, none⟩ (.int .i64 (-1))).cell? ⟨w1.heap.size + 1, 0, none⟩ = some (.int .i64 x) := rn5.cell 0
          have n1 : ((W.setCell ⟨w3.heap.size, 0, none⟩ (.int .i64 0)).setCell ⟨w3.heap.size, 1, none⟩ (.int .i64 (-1))).cell? ⟨w1.heap.size + 1, 1, none⟩ = some (.int .i64 y) := rn5.cell 1
          have n2 : ((W.setCell ⟨w3.heap.size, 0, none⟩ (.int .i64 0)).setCell ⟨w3.heap.size, 1, none⟩ (.int .i64 (-1))).cell? ⟨w1.heap.size + 1, 2, none⟩ = some (.int .i64 0) := rn5.cell 2
          have n3 : ((W.setCell ⟨w3.heap.size, 0, none⟩ (.int .i64 0)).setCell ⟨w3.heap.size, 1, none⟩ (.int .i64 (-1))).cell? ⟨w1.heap.size + 1, 3, none⟩ = some (.int .i64 0) := rn5.cell 3
          have p0 : ((W.setCell ⟨w3.heap.size, 0, none⟩ (.int .i64 0)).setCell ⟨w3.heap.size, 1, none⟩ (.int .i64 (-1))).cell? ⟨w3.heap.size, 0, none⟩ = some (.int .i64 0) := rq5.cell 0
          have p1 : ((W.setCell ⟨w3.heap.size, 0, none⟩ (.int .i64 0)).setCell ⟨w3.heap.size, 1, none⟩ (.int .i64 (-1))).cell? ⟨w3.heap.size, 1, none⟩ = some (.int .i64 (-1)) := rq5.cell 1
          have RJ5 := Lib.hid rj5
          have RN5 := Lib.hid rn5
          have RQ5 := Lib.hid rq5
          have HO5 := Lib.hid ho5
          have HB5 := Lib.hid hb5
          clear rq rj5 rn5 rq5 ho5 hb5
          go_wp2_with fail
          have hcall := HCA.out (0, -1) HSP.out
          dsimp only at hcall
          refine (hcall _).mono ?_
          rintro e w6 ⟨rfl, hb6⟩
          clear hcall j0 j1 j2 j3 j4 n0 n1 n2 n3 p0 p1 q0 q1 z0 z1 nf
          have rj6 := RJ5.out.below hb6 RJ5.out.lt
          have rn6 := RN5.out.below hb6 RN5.out.lt
          have rq6 := RQ5.out.below hb6 RQ5.out.lt
          have ho6 := own_grow HO5.out hb6
          have hb6' := Below.andThen HB5.out hb6 (Nat.le_refl _)
          have n0 : w6.cell? ⟨w1.heap.size + 1, 0, none⟩ = some (.int .i64 x) := rn6.cell 0
          have n1 : w6.cell? ⟨w1.heap.size + 1, 1, none⟩ = some (.int .i64 y) := rn6.cell 1
          have n2 : w6.cell? ⟨w1.heap.size + 1, 2, none⟩ = some (.int .i64 0) := rn6.cell 2
          have n3 : w6.cell? ⟨w1.heap.size + 1, 3, none⟩ = some (.int .i64 0) := rn6.cell 3
          have f0 := frozen_of_row w6 (w1.heap.size + 1) 0 _ _ rn6
          have f1 := frozen_of_row w6 (w1.heap.size + 1) 1 _ _ rn6
          have f2 := frozen_of_row w6 (w1.heap.size + 1) 2 _ _ rn6
          have f3 := frozen_of_row w6 (w1.heap.size + 1) 3 _ _ rn6
          have G7 : w6.grownBy ((((w6.setCell ⟨w1.heap.size + 1, 0, none⟩ (.int .i64 nx)).setCell ⟨w1.heap.size + 1, 1, none⟩ (.int .i64 ny)).setCell ⟨w1.heap.size + 1, 2, none⟩ (.int .i64 0)).setCell ⟨w1.heap.size + 1, 3, none⟩ (.int .i64 0)) (some (w1.heap.size + 1)) := (((one_set _ _ _ _).trans (one_set _ _ _ _)).trans (one_set _ _ _ _)).trans (one_set _ _ _ _)
          have rn7 : Row ((((w6.setCell ⟨w1.heap.size + 1, 0, none⟩ (.int .i64 nx)).setCell ⟨w1.heap.size + 1, 1, none⟩ (.int .i64 ny)).setCell ⟨w1.heap.size + 1, 2, none⟩ (.int .i64 0)).setCell ⟨w1.heap.size + 1, 3, none⟩ (.int .i64 0)) (w1.heap.size + 1) 77 [.int .i64 nx, .int .i64 ny, .int .i64 0, .int .i64 0] := (((rn6.set 0 (.int .i64 nx)).set 1 (.int .i64 ny)).set 2 (.int .i64 0)).set 3 (.int .i64 0)
          have rj7 : Row ((((w6.setCell ⟨w1.heap.size + 1, 0, none⟩ (.int .i64 nx)).setCell ⟨w1.heap.size + 1, 1, none⟩ (.int .i64 ny)).setCell ⟨w1.heap.size + 1, 2, none⟩ (.int .i64 0)).setCell ⟨w1.heap.size + 1, 3, none⟩ (.int .i64 0)) w1.heap.size 80 [.int .i64 2, .int .i64 a, .int .i64 b, .int .i64 0, .int .i64 0] := rj6.kept G7 (fun e => by have := Option.some.inj e; omega)
          have rq7 : Row ((((w6.setCell ⟨w1.heap.size + 1, 0, none⟩ (.int .i64 nx)).setCell ⟨w1.heap.size + 1, 1, none⟩ (.int .i64 ny)).setCell ⟨w1.heap.size + 1, 2, none⟩ (.int .i64 0)).setCell ⟨w1.heap.size + 1, 3, none⟩ (.int .i64 0)) w3.heap.size 48 [.int .i64 0, .int .i64 (-1)] := rq6.kept G7 (fun e => by have := Option.some.inj e; have := HRN.out.lt; omega)
          have ho7 : World.ownsRow ((((w6.setCell ⟨w1.heap.size + 1, 0, none⟩ (.int .i64 nx)).setCell ⟨w1.heap.size + 1, 1, none⟩ (.int .i64 ny)).setCell ⟨w1.heap.size + 1, 2, none⟩ (.int .i64 0)).setCell ⟨w1.heap.size + 1, 3, none⟩ (.int .i64 0)) w.heap.size 48 2 u14 way.length (flatP way) := ho6.kept G7 (owns_row_ne ho6 rn6 (by decide))
          have hb7 : Below w.heap.size w ((((w6.setCell ⟨w1.heap.size + 1, 0, none⟩ (.int .i64 nx)).setCell ⟨w1.heap.size + 1, 1, none⟩ (.int .i64 ny)).setCell ⟨w1.heap.size + 1, 2, none⟩ (.int .i64 0)).setCell ⟨w1.heap.size + 1, 3, none⟩ (.int .i64 0)) := hb6'.grown G7 hb6'.size (fun k e => by have := Option.some.inj e; have := BJ0.out; omega)
          have p0 : ((((w6.setCell ⟨w1.heap.size + 1, 0, none⟩ (.int .i64 nx)).setCell ⟨w1.heap.size + 1, 1, none⟩ (.int .i64 ny)).setCell ⟨w1.heap.size + 1, 2, none⟩ (.int .i64 0)).setCell ⟨w1.heap.size + 1, 3, none⟩ (.int .i64 0)).cell? ⟨w3.heap.size, 0, none⟩ = some (.int .i64 0) := rq7.cell 0
          have p1 : ((((w6.setCell ⟨w1.heap.size + 1, 0, none⟩ (.int .i64 nx)).setCell ⟨w1.heap.size + 1, 1, none⟩ (.int .i64 ny)).setCell ⟨w1.heap.size + 1, 2, none⟩ (.int .i64 0)).setCell ⟨w1.heap.size + 1, 3, none⟩ (.int .i64 0)).cell? ⟨w3.heap.size, 1, none⟩ = some (.int .i64 (-1)) := rq7.cell 1
          have ba7 := (Below.refl ((((w6.setCell ⟨w1.heap.size + 1, 0, none⟩ (.int .i64 nx)).setCell ⟨w1.heap.size + 1, 1, none⟩ (.int .i64 ny)).setCell ⟨w1.heap.size + 1, 2, none⟩ (.int .i64 0)).setCell ⟨w1.heap.size + 1, 3, none⟩ (.int .i64 0)).heap.size ((((w6.setCell ⟨w1.heap.size + 1, 0, none⟩ (.int .i64 nx)).setCell ⟨w1.heap.size + 1, 1, none⟩ (.int .i64 ny)).setCell ⟨w1.heap.size + 1, 2, none⟩ (.int .i64 0)).setCell ⟨w1.heap.size + 1, 3, none⟩ (.int .i64 0))).alloc (Nat.le_refl _) (.cells #[.int .i64 0, .int .i64 (-1)] 48)
          have rn7a := rn7.below ba7 rn7.lt
          have rj7a := rj7.below ba7 rj7.lt
          have ho7a := own_grow ho7 ba7
          have hb7a := Below.andThen hb7 ba7 (Nat.le_refl _)
          have hcl := Row.cell (Row.new ((((w6.setCell ⟨w1.heap.size + 1, 0, none⟩ (.int .i64 nx)).setCell ⟨w1.heap.size + 1, 1, none⟩ (.int .i64 ny)).setCell ⟨w1.heap.size + 1, 2, none⟩ (.int .i64 0)).setCell ⟨w1.heap.size + 1, 3, none⟩ (.int .i64 0)) 48 [.int .i64 0, .int .i64 (-1)])
          have hz7 : ((((w6.setCell ⟨w1.heap.size + 1, 0, none⟩ (.int .i64 nx)).setCell ⟨w1.heap.size + 1, 1, none⟩ (.int .i64 ny)).setCell ⟨w1.heap.size + 1, 2, none⟩ (.int .i64 0)).setCell ⟨w1.heap.size + 1, 3, none⟩ (.int .i64 0)).heap.size = w6.heap.size := by simp
          have HCL := Lib.hid (fun (j : Nat) (u : Value) (hj : ([.int .i64 0, .int .i64 (-1)] : List Value)[j]? = some u) => show (((((w6.setCell ⟨w1.heap.size + 1, 0, none⟩ (.int .i64 nx)).setCell ⟨w1.heap.size + 1, 1, none⟩ (.int .i64 ny)).setCell ⟨w1.heap.size + 1, 2, none⟩ (.int .i64 0)).setCell ⟨w1.heap.size + 1, 3, none⟩ (.int .i64 0)).alloc (.cells #[.int .i64 0, .int .i64 (-1)] 48)).cell? ((⟨w6.heap.size, 0, none⟩ : Addr).add j) = some u by rw [Go.WideShapes.add_plain]; simp only [Nat.zero_add]; rw [← hz7, hcl]; exact hj)
          have RN7 := Lib.hid rn7a
          have RJ7 := Lib.hid rj7a
          have HO7 := Lib.hid ho7a
          have HB7 := Lib.hid hb7a
          obtain ⟨zb, hzb⟩ : ∃ zb, decide ([nx, ny, 0, 0] = [0, 0, 0, 0]) = zb := ⟨_, rfl⟩
          have heq := fun W => eq77 nx ny 0 0 0 0 0 0 W
          rw [hzb] at heq
          have HEQ := Lib.hid heq
          have HZB := Lib.hid hzb
          have hwl : way.length ≤ 100000 := by have := HRL.out.2; omega
          clear hz7 rj6 rn6 rq6 ho6 hb6' hb6 G7 rn7 rj7 rq7 ho7 hb7 ba7 rn7a rj7a ho7a hb7a hcl heq hzb
          go_wp2_with (at_builtin; refine wpList_append_own_at _ rfl _ _ 27 rfl w.heap.size 48 i0 (.agg #[.int .i64 0, .int .i64 0]) 2 16 Try.underlying27 hi hz0 hz1 hz2 rfl (by decide) u14 way.length (flatP way) rfl HO7.out ⟨w6.heap.size, 0, none⟩ 1 1 [.int .i64 0, .int .i64 (-1)] rfl rfl HCL.out (by simp [Value.oneCell']) (by unfold maxLen; omega) (by omega) HB7.out.size ?_; intro v8 w8 hown8 hg8 hnil8 hat8; have rn8 := RN7.out.kept hg8 (own_ne3 HO7.out RN7.out (by decide)); have rj8 := RJ7.out.kept hg8 (own_ne3 HO7.out RJ7.out (by decide)); have hb8 := HB7.out.grown hg8 HB7.out.size (fun k e => (HO7.out.lt k e).1); have m0 : w8.cell? ⟨w1.heap.size + 1, 0, none⟩ = some (.int .i64 nx) := rn8.cell 0; have m1 : w8.cell? ⟨w1.heap.size + 1, 1, none⟩ = some (.int .i64 ny) := rn8.cell 1; have m2 : w8.cell? ⟨w1.heap.size + 1, 2, none⟩ = some (.int .i64 0) := rn8.cell 2; have m3 : w8.cell? ⟨w1.heap.size + 1, 3, none⟩ = some (.int .i64 0) := rn8.cell 3; have RN8 := Lib.hid rn8; have RJ8 := Lib.hid rj8; have HB8 := Lib.hid hb8; have HO8 := Lib.hid hown8; clear rn8 rj8 hb8 hown8 hg8 hnil8 hat8)
          rw [HEQ.out, Result.andThen_ok]
          clear m0 m1 m2 m3 n0 n1 n2 n3 f0 f1 f2 f3 p0 p1
          have hnz := HZB.out
          cases zb with
          | true =>
            have hz : nx = 0 ∧ ny = 0 := by have h := of_decide_eq_true hnz; simp at h; exact h
            have hr := ringL_zero HRL.out.1 HNH.out (by rw [HNX.out, hz.1, hz.2])
            subst hr
            clear hz hnz
            go_wp2_with fail
            go_ret2
            exact ⟨_, rfl, ⟨.slice none 0 0, rfl, World.ownsRow_nil _ _ _ _⟩, HB8.out⟩
          | false =>
            have hz : ¬ (nx = 0 ∧ ny = 0) := fun h => by have h2 := of_decide_eq_false hnz; exact h2 (by rw [h.1, h.2])
            have hr := ringL_next HRL.out.1 HNH.out (by rw [HNX.out]; intro h; have e1 := congrArg Prod.fst h; have e2 := congrArg Prod.snd h; exact hz ⟨e1, e2⟩)
            rw [HNX.out, HSP.out] at hr
            have HRR := Lib.hid hr
            clear hz hnz hr
            go_wp2_with fail
            go_roundg (gk - 1)
            case measure => have := HRR.out.1; omega
            case rel =>
              refine ⟨nx, ny, way ++ [(0, -1)], Lib.hid ⟨HBX.out.1, HBX.out.2, RN8.out, RJ8.out, ?_, HB8.out, HRR.out.2, ?_⟩⟩
              · rw [flatP_snoc, List.length_append, List.length_singleton]; exact HO8.out
              · rw [List.length_append, List.length_singleton]; have := HRL.out.2; have := HRR.out.1; omega
      · have hd1 : (x == a) = false := by simp [hc1]
        have hd2 : decide (x = a) = false := decide_eq_false hc1
        by_cases hc2 : y = 0
        · have hsp : stpF false a b x y = (-1, 1) := by unfold stpF; simp [hc1, hc2]
          have HSP := Lib.hid hsp
          have hd3 : (y == 0) = true := by simp [hc2]
          have hd4 : decide (y = 0) = true := decide_eq_true hc2
          clear hc1 hc2 hsp
          go_wp2_with fail
          refine wp_region_rel (by kernel_rfl) (by kernel_rfl) [31, 32, 33, 34, 35, 36, 37, 38, 30] [LitR (.int .i64 0), LitR (.pointer (some ⟨w1.heap.size + 1, 0, none⟩)), LitR (.int .i64 x), LitR (.int .i64 0), LitR (.pointer (some ⟨w1.heap.size, 1, none⟩)), LitR (.pointer (some ⟨w1.heap.size, 1, none⟩)), LitR (.int .i64 a), LitR (.bool false), LitR (.bool false)] 9 rfl (List.forall_mem_cons.2 ⟨LitR.stab _, (List.forall_mem_cons.2 ⟨LitR.stab _, (List.forall_mem_cons.2 ⟨LitR.stab _, (List.forall_mem_cons.2 ⟨LitR.stab _, (List.forall_mem_cons.2 ⟨LitR.stab _, (List.forall_mem_cons.2 ⟨LitR.stab _, (List.forall_mem_cons.2 ⟨LitR.stab _, (List.forall_mem_cons.2 ⟨LitR.stab _, (List.forall_mem_cons.2 ⟨LitR.stab _, (fun _ h => nomatch h)⟩)⟩)⟩)⟩)⟩)⟩)⟩)⟩)⟩) ⟨[u31, u32, u33, u34, u35, u36, u37, u38, u30], by simp only [putAll, Act.put, List.setIfInBounds_toArray, List.set_cons_succ, List.set_cons_zero], rfl⟩ ?steps ?fin
          case steps =>
            simp only [relSteps]
            refine ⟨?_, ?_, ?_, ?_, ?_, ?_, ?_, ?_, ?_, trivial⟩
            · rintro vs W K hc hvl hw hK
              obtain ⟨x0, x1, x2, x3, x4, x5, x6, x7, x8, rfl⟩ := len9 hvl
              have HK := Lib.hid hK
              have HC := Lib.hid hc
              have HW := Lib.hid hw
              clear hK hc hw hvl
              simp only [putAll, Act.put, List.setIfInBounds_toArray, List.set_cons_succ, List.set_cons_zero]
              clear HW
              go_wp2_with fail
              have fin := HK.out (.int .i64 0) W (Below.refl _ _) rfl
              simp only [putAll, Act.put, List.setIfInBounds_toArray, List.set_cons_succ, List.set_cons_zero] at fin
              exact fin
            · rintro vs W K hc hvl hw hK
              obtain ⟨x0, x1, x2, x3, x4, x5, x6, x7, x8, rfl⟩ := len9 hvl
              have HK := Lib.hid hK
              have HC := Lib.hid hc
              have HW := Lib.hid hw
              clear hK hc hw hvl
              have hd0 := HW.out ⟨0, .data⟩ (by simp) rfl
              obtain rfl : x0 = .int .i64 0 := rel_get hd0 rfl
              simp only [putAll, Act.put, List.setIfInBounds_toArray, List.set_cons_succ, List.set_cons_zero]
              clear HW hd0
              go_wp2_with fail
              have fin := HK.out (.pointer (some ⟨w1.heap.size + 1, 0, none⟩)) W (Below.refl _ _) rfl
              simp only [putAll, Act.put, List.setIfInBounds_toArray, List.set_cons_succ, List.set_cons_zero] at fin
              exact fin
            · rintro vs W K hc hvl hw hK
              obtain ⟨x0, x1, x2, x3, x4, x5, x6, x7, x8, rfl⟩ := len9 hvl
              have HK := Lib.hid hK
              have HC := Lib.hid hc
              have HW := Lib.hid hw
              clear hK hc hw hvl
              have hd1 := HW.out ⟨1, .data⟩ (by simp) rfl
              obtain rfl : x1 = .pointer (some ⟨w1.heap.size + 1, 0, none⟩) := rel_get hd1 rfl
              simp only [putAll, Act.put, List.setIfInBounds_toArray, List.set_cons_succ, List.set_cons_zero]
              have rr := HRNQ.out.below HC.out HRNQ.out.lt
              have c : W.cell? ⟨w1.heap.size + 1, 0, none⟩ = some (.int .i64 x) := rr.cell 0
              clear rr
              clear HW hd1
              go_wp2_with fail
              have fin := HK.out (.int .i64 x) W (Below.refl _ _) rfl
              simp only [putAll, Act.put, List.setIfInBounds_toArray, List.set_cons_succ, List.set_cons_zero] at fin
              exact fin
            · rintro vs W K hc hvl hw hK
              obtain ⟨x0, x1, x2, x3, x4, x5, x6, x7, x8, rfl⟩ := len9 hvl
              have HK := Lib.hid hK
              have HC := Lib.hid hc
              have HW := Lib.hid hw
              clear hK hc hw hvl
              simp only [putAll, Act.put, List.setIfInBounds_toArray, List.set_cons_succ, List.set_cons_zero]
              clear HW
              go_wp2_with fail
              have fin := HK.out (.int .i64 0) W (Below.refl _ _) rfl
              simp only [putAll, Act.put, List.setIfInBounds_toArray, List.set_cons_succ, List.set_cons_zero] at fin
              exact fin
            · rintro vs W K hc hvl hw hK
              obtain ⟨x0, x1, x2, x3, x4, x5, x6, x7, x8, rfl⟩ := len9 hvl
              have HK := Lib.hid hK
              have HC := Lib.hid hc
              have HW := Lib.hid hw
              clear hK hc hw hvl
              simp only [putAll, Act.put, List.setIfInBounds_toArray, List.set_cons_succ, List.set_cons_zero]
              clear HW
              go_wp2_with fail
              have fin := HK.out (.pointer (some ⟨w1.heap.size, 1, none⟩)) W (Below.refl _ _) rfl
              simp only [putAll, Act.put, List.setIfInBounds_toArray, List.set_cons_succ, List.set_cons_zero] at fin
              exact fin
            · rintro vs W K hc hvl hw hK
              obtain ⟨x0, x1, x2, x3, x4, x5, x6, x7, x8, rfl⟩ := len9 hvl
              have HK := Lib.hid hK
              have HC := Lib.hid hc
              have HW := Lib.hid hw
              clear hK hc hw hvl
              have hd4 := HW.out ⟨4, .data⟩ (by simp) rfl
              obtain rfl : x4 = .pointer (some ⟨w1.heap.size, 1, none⟩) := rel_get hd4 rfl
              have hd3 := HW.out ⟨3, .data⟩ (by simp) rfl
              obtain rfl : x3 = .int .i64 0 := rel_get hd3 rfl
              simp only [putAll, Act.put, List.setIfInBounds_toArray, List.set_cons_succ, List.set_cons_zero]
              clear HW hd3 hd4
              go_wp2_with fail
              have fin := HK.out (.pointer (some ⟨w1.heap.size, 1, none⟩)) W (Below.refl _ _) rfl
              simp only [putAll, Act.put, List.setIfInBounds_toArray, List.set_cons_succ, List.set_cons_zero] at fin
              exact fin
            · rintro vs W K hc hvl hw hK
              obtain ⟨x0, x1, x2, x3, x4, x5, x6, x7, x8, rfl⟩ := len9 hvl
              have HK := Lib.hid hK
              have HC := Lib.hid hc
              have HW := Lib.hid hw
              clear hK hc hw hvl
              have hd5 := HW.out ⟨5, .data⟩ (by simp) rfl
              obtain rfl : x5 = .pointer (some ⟨w1.heap.size, 1, none⟩) := rel_get hd5 rfl
              simp only [putAll, Act.put, List.setIfInBounds_toArray, List.set_cons_succ, List.set_cons_zero]
              have rr := HRJQ.out.below HC.out HRJQ.out.lt
              have c : W.cell? ⟨w1.heap.size, 1, none⟩ = some (.int .i64 a) := rr.cell 1
              clear rr
              clear HW hd5
              go_wp2_with fail
              have fin := HK.out (.int .i64 a) W (Below.refl _ _) rfl
              simp only [putAll, Act.put, List.setIfInBounds_toArray, List.set_cons_succ, List.set_cons_zero] at fin
              exact fin
            · rintro vs W K hc hvl hw hK
              obtain ⟨x0, x1, x2, x3, x4, x5, x6, x7, x8, rfl⟩ := len9 hvl
              have HK := Lib.hid hK
              have HC := Lib.hid hc
              have HW := Lib.hid hw
              clear hK hc hw hvl
              have hd2 := HW.out ⟨2, .data⟩ (by simp) rfl
              obtain rfl : x2 = .int .i64 x := rel_get hd2 rfl
              have hd6 := HW.out ⟨6, .data⟩ (by simp) rfl
              obtain rfl : x6 = .int .i64 a := rel_get hd6 rfl
              simp only [putAll, Act.put, List.setIfInBounds_toArray, List.set_cons_succ, List.set_cons_zero]
              clear HW hd2 hd6
              go_wp2_with fail
              have fin := HK.out (.bool false) W (Below.refl _ _) rfl
              simp only [putAll, Act.put, List.setIfInBounds_toArray, List.set_cons_succ, List.set_cons_zero] at fin
              exact fin
            · rintro vs W K hc hvl hw hK
              obtain ⟨x0, x1, x2, x3, x4, x5, x6, x7, x8, rfl⟩ := len9 hvl
              have HK := Lib.hid hK
              have HC := Lib.hid hc
              have HW := Lib.hid hw
              clear hK hc hw hvl
              have hd7 := HW.out ⟨7, .data⟩ (by simp) rfl
              obtain rfl : x7 = .bool false := rel_get hd7 rfl
              simp only [putAll, Act.put, List.setIfInBounds_toArray, List.set_cons_succ, List.set_cons_zero]
              clear HW hd7
              go_wp2_with fail
              have fin := HK.out (.bool false) W (Below.refl _ _) rfl
              simp only [putAll, Act.put, List.setIfInBounds_toArray, List.set_cons_succ, List.set_cons_zero] at fin
              exact fin
          case fin =>
            intro vs W hc hvl hv
            obtain ⟨x0, x1, x2, x3, x4, x5, x6, x7, x8, rfl⟩ := len9 hvl
            have hd8 := hv 8 (by omega)
            obtain rfl : x8 = .bool false := rel_get hd8 rfl
            clear hd8
            simp only [putAll, Act.put, List.setIfInBounds_toArray, List.set_cons_succ, List.set_cons_zero]
            have HQ1 := Lib.hid hc
            clear hv hc hvl
            have rq := HRQ.out.below HQ1.out HRQ.out.lt
            have q0 : W.cell? ⟨w3.heap.size, 0, none⟩ = some (.int .i64 0) := rq.cell 0
            have q1 : W.cell? ⟨w3.heap.size, 1, none⟩ = some (.int .i64 0) := rq.cell 1
            have z0 := frozen_of_row W w3.heap.size 0 _ _ rq
            have z1 := frozen_of_row W w3.heap.size 1 _ _ rq
            have G1 := one_set W w3.heap.size 0 (.int .i64 (-1))
            have G2 := one_set (W.setCell ⟨w3.heap.size, 0, none⟩ (.int .i64 (-1))) w3.heap.size 1 (.int .i64 (1))
            have hjl := HRJQ.out.lt
            have hnl := HRNQ.out.lt
            have hj3 := HRJ.out.lt
            have hn3 := HRN.out.lt
            have rj5 : Row ((W.setCell ⟨w3.heap.size, 0, none⟩ (.int .i64 (-1))).setCell ⟨w3.heap.size, 1, none⟩ (.int .i64 1)) w1.heap.size 80 [.int .i64 2, .int .i64 a, .int .i64 b, .int .i64 0, .int .i64 0] := ((HRJQ.out.below HQ1.out hjl).kept G1 (fun e => by have := Option.some.inj e; omega)).kept G2 (fun e => by have := Option.some.inj e; omega)
            have rn5 : Row ((W.setCell ⟨w3.heap.size, 0, none⟩ (.int .i64 (-1))).setCell ⟨w3.heap.size, 1, none⟩ (.int .i64 1)) (w1.heap.size + 1) 77 [.int .i64 x, .int .i64 y, .int .i64 0, .int .i64 0] := ((HRNQ.out.below HQ1.out hnl).kept G1 (fun e => by have := Option.some.inj e; omega)).kept G2 (fun e => by have := Option.some.inj e; omega)
            have rq5 : Row ((W.setCell ⟨w3.heap.size, 0, none⟩ (.int .i64 (-1))).setCell ⟨w3.heap.size, 1, none⟩ (.int .i64 1)) w3.heap.size 48 [.int .i64 (-1), .int .i64 1] := (rq.set 0 (.int .i64 (-1))).set 1 (.int .i64 1)
            have ho5 : World.ownsRow ((W.setCell ⟨w3.heap.size, 0, none⟩ (.int .i64 (-1))).setCell ⟨w3.heap.size, 1, none⟩ (.int .i64 1)) w.heap.size 48 2 u14 way.length (flatP way) := ((own_grow (own_grow HO.out HQ0.out) HQ1.out).kept G1 (own_ne HO.out (by omega))).kept G2 (own_ne HO.out (by omega))
            have hb5 : Below w.heap.size w ((W.setCell ⟨w3.heap.size, 0, none⟩ (.int .i64 (-1))).setCell ⟨w3.heap.size, 1, none⟩ (.int .i64 1)) := ((Below.andThen (Below.andThen HW.out HQ0.out (Nat.le_refl _)) HQ1.out (Nat.le_refl _)).grown G1 (by have := HW.out.size; have := HQ0.out.size; have := HQ1.out.size; omega) (fun k e => by have := Option.some.inj e; have := HW.out.size; omega)).grown G2 (by have := HW.out.size; have := HQ0.out.size; have := HQ1.out.size; have := G1.size; omega) (fun k e => by have := Option.some.inj e; have := HW.out.size; omega)
            have nf : W.cell? ⟨w1.heap.size + 1, 1, none⟩ = some (.int .i64 y) := (HRNQ.out.below HQ1.out HRNQ.out.lt).cell 1
            clear G1 G2 hjl hnl hj3 hn3
            have j0 : ((W.setCell ⟨w3.heap.size, 0, none⟩ (.int .i64 (-1))).setCell ⟨w3.heap.size, 1, none⟩ (.int .i64 1)).cell? ⟨w1.heap.size, 0, none⟩ = some (.int .i64 2) := rj5.cell 0
            have j1 : ((W.setCell ⟨w3.heap.size, 0, none⟩ (.int .i64 (-1))).setCell ⟨w3.heap.size, 1, none⟩ (.int .i64 1)).cell? ⟨w1.heap.size, 1, none⟩ = some (.int .i64 a) := rj5.cell 1
            have j2 : ((W.setCell ⟨w3.heap.size, 0, none⟩ (.int .i64 (-1))).setCell ⟨w3.heap.size, 1, none⟩ (.int .i64 1)).cell? ⟨w1.heap.size, 2, none⟩ = some (.int .i64 b) := rj5.cell 2
            have j3 : ((W.setCell ⟨w3.heap.size, 0, none⟩ (.int .i64 (-1))).setCell ⟨w3.heap.size, 1, none⟩ (.int .i64 1)).cell? ⟨w1.heap.size, 3, none⟩ = some (.int .i64 0) := rj5.cell 3
            have j4 : ((W.setCell ⟨w3.heap.size, 0, none⟩ (.int .i64 (-1))).setCell ⟨w3.heap.size, 1, none⟩ (.int .i64 1)).cell? ⟨w1.heap.size, 4, none⟩ = some (.int .i64 0) := rj5.cell 4
            have n0 : ((W.setCell ⟨w3.heap.size, 0, none⟩ (.int .i64 (-1))).setCell ⟨w3.heap.size, 1, none⟩ (.int .i64 1)).cell? ⟨w1.heap.size + 1, 0, none⟩ = some (.int .i64 x) := rn5.cell 0
            have n1 : ((W.setCell ⟨w3.heap.size, 0, none⟩ (.int .i64 (-1))).setCell ⟨w3.heap.size, 1, none⟩ (.int .i64 1)).cell? ⟨w1.heap.size + 1, 1, none⟩ = some (.int .i64 y) := rn5.cell 1
            have n2 : ((W.setCell ⟨w3.heap.size, 0, none⟩ (.int .i64 (-1))).setCell ⟨w3.heap.size, 1, none⟩ (.int .i64 1)).cell? ⟨w1.heap.size + 1, 2, none⟩ = some (.int .i64 0) := rn5.cell 2
            have n3 : ((W.setCell ⟨w3.heap.size, 0, none⟩ (.int .i64 (-1))).setCell ⟨w3.heap.size, 1, none⟩ (.int .i64 1)).cell? ⟨w1.heap.size + 1, 3, none⟩ = some (.int .i64 0) := rn5.cell 3
            have p0 : ((W.setCell ⟨w3.heap.size, 0, none⟩ (.int .i64 (-1))).setCell ⟨w3.heap.size, 1, none⟩ (.int .i64 1)).cell? ⟨w3.heap.size, 0, none⟩ = some (.int .i64 (-1)) := rq5.cell 0
            have p1 : ((W.setCell ⟨w3.heap.size, 0, none⟩ (.int .i64 (-1))).setCell ⟨w3.heap.size, 1, none⟩ (.int .i64 1)).cell? ⟨w3.heap.size, 1, none⟩ = some (.int .i64 1) := rq5.cell 1
            have RJ5 := Lib.hid rj5
            have RN5 := Lib.hid rn5
            have RQ5 := Lib.hid rq5
            have HO5 := Lib.hid ho5
            have HB5 := Lib.hid hb5
            clear rq rj5 rn5 rq5 ho5 hb5
            go_wp2_with fail
            have hcall := HCA.out (-1, 1) HSP.out
            dsimp only at hcall
            refine (hcall _).mono ?_
            rintro e w6 ⟨rfl, hb6⟩
            clear hcall j0 j1 j2 j3 j4 n0 n1 n2 n3 p0 p1 q0 q1 z0 z1 nf
            have rj6 := RJ5.out.below hb6 RJ5.out.lt
            have rn6 := RN5.out.below hb6 RN5.out.lt
            have rq6 := RQ5.out.below hb6 RQ5.out.lt
            have ho6 := own_grow HO5.out hb6
            have hb6' := Below.andThen HB5.out hb6 (Nat.le_refl _)
            have n0 : w6.cell? ⟨w1.heap.size + 1, 0, none⟩ = some (.int .i64 x) := rn6.cell 0
            have n1 : w6.cell? ⟨w1.heap.size + 1, 1, none⟩ = some (.int .i64 y) := rn6.cell 1
            have n2 : w6.cell? ⟨w1.heap.size + 1, 2, none⟩ = some (.int .i64 0) := rn6.cell 2
            have n3 : w6.cell? ⟨w1.heap.size + 1, 3, none⟩ = some (.int .i64 0) := rn6.cell 3
            have f0 := frozen_of_row w6 (w1.heap.size + 1) 0 _ _ rn6
            have f1 := frozen_of_row w6 (w1.heap.size + 1) 1 _ _ rn6
            have f2 := frozen_of_row w6 (w1.heap.size + 1) 2 _ _ rn6
            have f3 := frozen_of_row w6 (w1.heap.size + 1) 3 _ _ rn6
            have G7 : w6.grownBy ((((w6.setCell ⟨w1.heap.size + 1, 0, none⟩ (.int .i64 nx)).setCell ⟨w1.heap.size + 1, 1, none⟩ (.int .i64 ny)).setCell ⟨w1.heap.size + 1, 2, none⟩ (.int .i64 0)).setCell ⟨w1.heap.size + 1, 3, none⟩ (.int .i64 0)) (some (w1.heap.size + 1)) := (((one_set _ _ _ _).trans (one_set _ _ _ _)).trans (one_set _ _ _ _)).trans (one_set _ _ _ _)
            have rn7 : Row ((((w6.setCell ⟨w1.heap.size + 1, 0, none⟩ (.int .i64 nx)).setCell ⟨w1.heap.size + 1, 1, none⟩ (.int .i64 ny)).setCell ⟨w1.heap.size + 1, 2, none⟩ (.int .i64 0)).setCell ⟨w1.heap.size + 1, 3, none⟩ (.int .i64 0)) (w1.heap.size + 1) 77 [.int .i64 nx, .int .i64 ny, .int .i64 0, .int .i64 0] := (((rn6.set 0 (.int .i64 nx)).set 1 (.int .i64 ny)).set 2 (.int .i64 0)).set 3 (.int .i64 0)
            have rj7 : Row ((((w6.setCell ⟨w1.heap.size + 1, 0, none⟩ (.int .i64 nx)).setCell ⟨w1.heap.size + 1, 1, none⟩ (.int .i64 ny)).setCell ⟨w1.heap.size + 1, 2, none⟩ (.int .i64 0)).setCell ⟨w1.heap.size + 1, 3, none⟩ (.int .i64 0)) w1.heap.size 80 [.int .i64 2, .int .i64 a, .int .i64 b, .int .i64 0, .int .i64 0] := rj6.kept G7 (fun e => by have := Option.some.inj e; omega)
            have rq7 : Row ((((w6.setCell ⟨w1.heap.size + 1, 0, none⟩ (.int .i64 nx)).setCell ⟨w1.heap.size + 1, 1, none⟩ (.int .i64 ny)).setCell ⟨w1.heap.size + 1, 2, none⟩ (.int .i64 0)).setCell ⟨w1.heap.size + 1, 3, none⟩ (.int .i64 0)) w3.heap.size 48 [.int .i64 (-1), .int .i64 1] := rq6.kept G7 (fun e => by have := Option.some.inj e; have := HRN.out.lt; omega)
            have ho7 : World.ownsRow ((((w6.setCell ⟨w1.heap.size + 1, 0, none⟩ (.int .i64 nx)).setCell ⟨w1.heap.size + 1, 1, none⟩ (.int .i64 ny)).setCell ⟨w1.heap.size + 1, 2, none⟩ (.int .i64 0)).setCell ⟨w1.heap.size + 1, 3, none⟩ (.int .i64 0)) w.heap.size 48 2 u14 way.length (flatP way) := ho6.kept G7 (owns_row_ne ho6 rn6 (by decide))
            have hb7 : Below w.heap.size w ((((w6.setCell ⟨w1.heap.size + 1, 0, none⟩ (.int .i64 nx)).setCell ⟨w1.heap.size + 1, 1, none⟩ (.int .i64 ny)).setCell ⟨w1.heap.size + 1, 2, none⟩ (.int .i64 0)).setCell ⟨w1.heap.size + 1, 3, none⟩ (.int .i64 0)) := hb6'.grown G7 hb6'.size (fun k e => by have := Option.some.inj e; have := BJ0.out; omega)
            have p0 : ((((w6.setCell ⟨w1.heap.size + 1, 0, none⟩ (.int .i64 nx)).setCell ⟨w1.heap.size + 1, 1, none⟩ (.int .i64 ny)).setCell ⟨w1.heap.size + 1, 2, none⟩ (.int .i64 0)).setCell ⟨w1.heap.size + 1, 3, none⟩ (.int .i64 0)).cell? ⟨w3.heap.size, 0, none⟩ = some (.int .i64 (-1)) := rq7.cell 0
            have p1 : ((((w6.setCell ⟨w1.heap.size + 1, 0, none⟩ (.int .i64 nx)).setCell ⟨w1.heap.size + 1, 1, none⟩ (.int .i64 ny)).setCell ⟨w1.heap.size + 1, 2, none⟩ (.int .i64 0)).setCell ⟨w1.heap.size + 1, 3, none⟩ (.int .i64 0)).cell? ⟨w3.heap.size, 1, none⟩ = some (.int .i64 1) := rq7.cell 1
            have ba7 := (Below.refl ((((w6.setCell ⟨w1.heap.size + 1, 0, none⟩ (.int .i64 nx)).setCell ⟨w1.heap.size + 1, 1, none⟩ (.int .i64 ny)).setCell ⟨w1.heap.size + 1, 2, none⟩ (.int .i64 0)).setCell ⟨w1.heap.size + 1, 3, none⟩ (.int .i64 0)).heap.size ((((w6.setCell ⟨w1.heap.size + 1, 0, none⟩ (.int .i64 nx)).setCell ⟨w1.heap.size + 1, 1, none⟩ (.int .i64 ny)).setCell ⟨w1.heap.size + 1, 2, none⟩ (.int .i64 0)).setCell ⟨w1.heap.size + 1, 3, none⟩ (.int .i64 0))).alloc (Nat.le_refl _) (.cells #[.int .i64 (-1), .int .i64 1] 48)
            have rn7a := rn7.below ba7 rn7.lt
            have rj7a := rj7.below ba7 rj7.lt
            have ho7a := own_grow ho7 ba7
            have hb7a := Below.andThen hb7 ba7 (Nat.le_refl _)
            have hcl := Row.cell (Row.new ((((w6.setCell ⟨w1.heap.size + 1, 0, none⟩ (.int .i64 nx)).setCell ⟨w1.heap.size + 1, 1, none⟩ (.int .i64 ny)).setCell ⟨w1.heap.size + 1, 2, none⟩ (.int .i64 0)).setCell ⟨w1.heap.size + 1, 3, none⟩ (.int .i64 0)) 48 [.int .i64 (-1), .int .i64 1])
            have hz7 : ((((w6.setCell ⟨w1.heap.size + 1, 0, none⟩ (.int .i64 nx)).setCell ⟨w1.heap.size + 1, 1, none⟩ (.int .i64 ny)).setCell ⟨w1.heap.size + 1, 2, none⟩ (.int .i64 0)).setCell ⟨w1.heap.size + 1, 3, none⟩ (.int .i64 0)).heap.size = w6.heap.size := by simp
            have HCL := Lib.hid (fun (j : Nat) (u : Value) (hj : ([.int .i64 (-1), .int .i64 1] : List Value)[j]? = some u) => show (((((w6.setCell ⟨w1.heap.size + 1, 0, none⟩ (.int .i64 nx)).setCell ⟨w1.heap.size + 1, 1, none⟩ (.int .i64 ny)).setCell ⟨w1.heap.size + 1, 2, none⟩ (.int .i64 0)).setCell ⟨w1.heap.size + 1, 3, none⟩ (.int .i64 0)).alloc (.cells #[.int .i64 (-1), .int .i64 1] 48)).cell? ((⟨w6.heap.size, 0, none⟩ : Addr).add j) = some u by rw [Go.WideShapes.add_plain]; simp only [Nat.zero_add]; rw [← hz7, hcl]; exact hj)
            have RN7 := Lib.hid rn7a
            have RJ7 := Lib.hid rj7a
            have HO7 := Lib.hid ho7a
            have HB7 := Lib.hid hb7a
            obtain ⟨zb, hzb⟩ : ∃ zb, decide ([nx, ny, 0, 0] = [0, 0, 0, 0]) = zb := ⟨_, rfl⟩
            have heq := fun W => eq77 nx ny 0 0 0 0 0 0 W
            rw [hzb] at heq
            have HEQ := Lib.hid heq
            have HZB := Lib.hid hzb
            have hwl : way.length ≤ 100000 := by have := HRL.out.2; omega
            clear hz7 rj6 rn6 rq6 ho6 hb6' hb6 G7 rn7 rj7 rq7 ho7 hb7 ba7 rn7a rj7a ho7a hb7a hcl heq hzb
            go_wp2_with (at_builtin; refine wpList_append_own_at _ rfl _ _ 27 rfl w.heap.size 48 i0 (.agg #[.int .i64 0, .int .i64 0]) 2 16 Try.underlying27 hi hz0 hz1 hz2 rfl (by decide) u14 way.length (flatP way) rfl HO7.out ⟨w6.heap.size, 0, none⟩ 1 1 [.int .i64 (-1), .int .i64 1] rfl rfl HCL.out (by simp [Value.oneCell']) (by unfold maxLen; omega) (by omega) HB7.out.size ?_; intro v8 w8 hown8 hg8 hnil8 hat8; have rn8 := RN7.out.kept hg8 (own_ne3 HO7.out RN7.out (by decide)); have rj8 := RJ7.out.kept hg8 (own_ne3 HO7.out RJ7.out (by decide)); have hb8 := HB7.out.grown hg8 HB7.out.size (fun k e => (HO7.out.lt k e).1); have m0 : w8.cell? ⟨w1.heap.size + 1, 0, none⟩ = some (.int .i64 nx) := rn8.cell 0; have m1 : w8.cell? ⟨w1.heap.size + 1, 1, none⟩ = some (.int .i64 ny) := rn8.cell 1; have m2 : w8.cell? ⟨w1.heap.size + 1, 2, none⟩ = some (.int .i64 0) := rn8.cell 2; have m3 : w8.cell? ⟨w1.heap.size + 1, 3, none⟩ = some (.int .i64 0) := rn8.cell 3; have RN8 := Lib.hid rn8; have RJ8 := Lib.hid rj8; have HB8 := Lib.hid hb8; have HO8 := Lib.hid hown8; clear rn8 rj8 hb8 hown8 hg8 hnil8 hat8)
            rw [HEQ.out, Result.andThen_ok]
            clear m0 m1 m2 m3 n0 n1 n2 n3 f0 f1 f2 f3 p0 p1
            have hnz := HZB.out
            cases zb with
            | true =>
              have hz : nx = 0 ∧ ny = 0 := by have h := of_decide_eq_true hnz; simp at h; exact h
              have hr := ringL_zero HRL.out.1 HNH.out (by rw [HNX.out, hz.1, hz.2])
              subst hr
              clear hz hnz
              go_wp2_with fail
              go_ret2
              exact ⟨_, rfl, ⟨.slice none 0 0, rfl, World.ownsRow_nil _ _ _ _⟩, HB8.out⟩
            | false =>
              have hz : ¬ (nx = 0 ∧ ny = 0) := fun h => by have h2 := of_decide_eq_false hnz; exact h2 (by rw [h.1, h.2])
              have hr := ringL_next HRL.out.1 HNH.out (by rw [HNX.out]; intro h; have e1 := congrArg Prod.fst h; have e2 := congrArg Prod.snd h; exact hz ⟨e1, e2⟩)
              rw [HNX.out, HSP.out] at hr
              have HRR := Lib.hid hr
              clear hz hnz hr
              go_wp2_with fail
              go_roundg (gk - 1)
              case measure => have := HRR.out.1; omega
              case rel =>
                refine ⟨nx, ny, way ++ [(-1, 1)], Lib.hid ⟨HBX.out.1, HBX.out.2, RN8.out, RJ8.out, ?_, HB8.out, HRR.out.2, ?_⟩⟩
                · rw [flatP_snoc, List.length_append, List.length_singleton]; exact HO8.out
                · rw [List.length_append, List.length_singleton]; have := HRL.out.2; have := HRR.out.1; omega
        · have hsp : stpF false a b x y = (1, 0) := by unfold stpF; simp [hc1, hc2]
          have HSP := Lib.hid hsp
          have hd3 : (y == 0) = false := by simp [hc2]
          have hd4 : decide (y = 0) = false := decide_eq_false hc2
          clear hc1 hc2 hsp
          go_wp2_with fail
          refine wp_region_rel (by kernel_rfl) (by kernel_rfl) [31, 32, 33, 34, 35, 36, 37, 38, 30] [LitR (.int .i64 0), LitR (.pointer (some ⟨w1.heap.size + 1, 0, none⟩)), LitR (.int .i64 x), LitR (.int .i64 0), LitR (.pointer (some ⟨w1.heap.size, 1, none⟩)), LitR (.pointer (some ⟨w1.heap.size, 1, none⟩)), LitR (.int .i64 a), LitR (.bool false), LitR (.bool false)] 9 rfl (List.forall_mem_cons.2 ⟨LitR.stab _, (List.forall_mem_cons.2 ⟨LitR.stab _, (List.forall_mem_cons.2 ⟨LitR.stab _, (List.forall_mem_cons.2 ⟨LitR.stab _, (List.forall_mem_cons.2 ⟨LitR.stab _, (List.forall_mem_cons.2 ⟨LitR.stab _, (List.forall_mem_cons.2 ⟨LitR.stab _, (List.forall_mem_cons.2 ⟨LitR.stab _, (List.forall_mem_cons.2 ⟨LitR.stab _, (fun _ h => nomatch h)⟩)⟩)⟩)⟩)⟩)⟩)⟩)⟩)⟩) ⟨[u31, u32, u33, u34, u35, u36, u37, u38, u30], by simp only [putAll, Act.put, List.setIfInBounds_toArray, List.set_cons_succ, List.set_cons_zero], rfl⟩ ?steps ?fin
          case steps =>
            simp only [relSteps]
            refine ⟨?_, ?_, ?_, ?_, ?_, ?_, ?_, ?_, ?_, trivial⟩
            · rintro vs W K hc hvl hw hK
              obtain ⟨x0, x1, x2, x3, x4, x5, x6, x7, x8, rfl⟩ := len9 hvl
              have HK := Lib.hid hK
              have HC := Lib.hid hc
              have HW := Lib.hid hw
              clear hK hc hw hvl
              simp only [putAll, Act.put, List.setIfInBounds_toArray, List.set_cons_succ, List.set_cons_zero]
              clear HW
              go_wp2_with fail
              have fin := HK.out (.int .i64 0) W (Below.refl _ _) rfl
              simp only [putAll, Act.put, List.setIfInBounds_toArray, List.set_cons_succ, List.set_cons_zero] at fin
              exact fin
            · rintro vs W K hc hvl hw hK
              obtain ⟨x0, x1, x2, x3, x4, x5, x6, x7, x8, rfl⟩ := len9 hvl
              have HK := Lib.hid hK
              have HC := Lib.hid hc
              have HW := Lib.hid hw
              clear hK hc hw hvl
              have hd0 := HW.out ⟨0, .data⟩ (by simp) rfl
              obtain rfl : x0 = .int .i64 0 := rel_get hd0 rfl
              simp only [putAll, Act.put, List.setIfInBounds_toArray, List.set_cons_succ, List.set_cons_zero]
              clear HW hd0
              go_wp2_with fail
              have fin := HK.out (.pointer (some ⟨w1.heap.size + 1, 0, none⟩)) W (Below.refl _ _) rfl
              simp only [putAll, Act.put, List.setIfInBounds_toArray, List.set_cons_succ, List.set_cons_zero] at fin
              exact fin
            · rintro vs W K hc hvl hw hK
              obtain ⟨x0, x1, x2, x3, x4, x5, x6, x7, x8, rfl⟩ := len9 hvl
              have HK := Lib.hid hK
              have HC := Lib.hid hc
              have HW := Lib.hid hw
              clear hK hc hw hvl
              have hd1 := HW.out ⟨1, .data⟩ (by simp) rfl
              obtain rfl : x1 = .pointer (some ⟨w1.heap.size + 1, 0, none⟩) := rel_get hd1 rfl
              simp only [putAll, Act.put, List.setIfInBounds_toArray, List.set_cons_succ, List.set_cons_zero]
              have rr := HRNQ.out.below HC.out HRNQ.out.lt
              have c : W.cell? ⟨w1.heap.size + 1, 0, none⟩ = some (.int .i64 x) := rr.cell 0
              clear rr
              clear HW hd1
              go_wp2_with fail
              have fin := HK.out (.int .i64 x) W (Below.refl _ _) rfl
              simp only [putAll, Act.put, List.setIfInBounds_toArray, List.set_cons_succ, List.set_cons_zero] at fin
              exact fin
            · rintro vs W K hc hvl hw hK
              obtain ⟨x0, x1, x2, x3, x4, x5, x6, x7, x8, rfl⟩ := len9 hvl
              have HK := Lib.hid hK
              have HC := Lib.hid hc
              have HW := Lib.hid hw
              clear hK hc hw hvl
              simp only [putAll, Act.put, List.setIfInBounds_toArray, List.set_cons_succ, List.set_cons_zero]
              clear HW
              go_wp2_with fail
              have fin := HK.out (.int .i64 0) W (Below.refl _ _) rfl
              simp only [putAll, Act.put, List.setIfInBounds_toArray, List.set_cons_succ, List.set_cons_zero] at fin
              exact fin
            · rintro vs W K hc hvl hw hK
              obtain ⟨x0, x1, x2, x3, x4, x5, x6, x7, x8, rfl⟩ := len9 hvl
              have HK := Lib.hid hK
              have HC := Lib.hid hc
              have HW := Lib.hid hw
              clear hK hc hw hvl
              simp only [putAll, Act.put, List.setIfInBounds_toArray, List.set_cons_succ, List.set_cons_zero]
              clear HW
              go_wp2_with fail
              have fin := HK.out (.pointer (some ⟨w1.heap.size, 1, none⟩)) W (Below.refl _ _) rfl
              simp only [putAll, Act.put, List.setIfInBounds_toArray, List.set_cons_succ, List.set_cons_zero] at fin
              exact fin
            · rintro vs W K hc hvl hw hK
              obtain ⟨x0, x1, x2, x3, x4, x5, x6, x7, x8, rfl⟩ := len9 hvl
              have HK := Lib.hid hK
              have HC := Lib.hid hc
              have HW := Lib.hid hw
              clear hK hc hw hvl
              have hd4 := HW.out ⟨4, .data⟩ (by simp) rfl
              obtain rfl : x4 = .pointer (some ⟨w1.heap.size, 1, none⟩) := rel_get hd4 rfl
              have hd3 := HW.out ⟨3, .data⟩ (by simp) rfl
              obtain rfl : x3 = .int .i64 0 := rel_get hd3 rfl
              simp only [putAll, Act.put, List.setIfInBounds_toArray, List.set_cons_succ, List.set_cons_zero]
              clear HW hd3 hd4
              go_wp2_with fail
              have fin := HK.out (.pointer (some ⟨w1.heap.size, 1, none⟩)) W (Below.refl _ _) rfl
              simp only [putAll, Act.put, List.setIfInBounds_toArray, List.set_cons_succ, List.set_cons_zero] at fin
              exact fin
            · rintro vs W K hc hvl hw hK
              obtain ⟨x0, x1, x2, x3, x4, x5, x6, x7, x8, rfl⟩ := len9 hvl
              have HK := Lib.hid hK
              have HC := Lib.hid hc
              have HW := Lib.hid hw
              clear hK hc hw hvl
              have hd5 := HW.out ⟨5, .data⟩ (by simp) rfl
              obtain rfl : x5 = .pointer (some ⟨w1.heap.size, 1, none⟩) := rel_get hd5 rfl
              simp only [putAll, Act.put, List.setIfInBounds_toArray, List.set_cons_succ, List.set_cons_zero]
              have rr := HRJQ.out.below HC.out HRJQ.out.lt
              have c : W.cell? ⟨w1.heap.size, 1, none⟩ = some (.int .i64 a) := rr.cell 1
              clear rr
              clear HW hd5
              go_wp2_with fail
              have fin := HK.out (.int .i64 a) W (Below.refl _ _) rfl
              simp only [putAll, Act.put, List.setIfInBounds_toArray, List.set_cons_succ, List.set_cons_zero] at fin
              exact fin
            · rintro vs W K hc hvl hw hK
              obtain ⟨x0, x1, x2, x3, x4, x5, x6, x7, x8, rfl⟩ := len9 hvl
              have HK := Lib.hid hK
              have HC := Lib.hid hc
              have HW := Lib.hid hw
              clear hK hc hw hvl
              have hd2 := HW.out ⟨2, .data⟩ (by simp) rfl
              obtain rfl : x2 = .int .i64 x := rel_get hd2 rfl
              have hd6 := HW.out ⟨6, .data⟩ (by simp) rfl
              obtain rfl : x6 = .int .i64 a := rel_get hd6 rfl
              simp only [putAll, Act.put, List.setIfInBounds_toArray, List.set_cons_succ, List.set_cons_zero]
              clear HW hd2 hd6
              go_wp2_with fail
              have fin := HK.out (.bool false) W (Below.refl _ _) rfl
              simp only [putAll, Act.put, List.setIfInBounds_toArray, List.set_cons_succ, List.set_cons_zero] at fin
              exact fin
            · rintro vs W K hc hvl hw hK
              obtain ⟨x0, x1, x2, x3, x4, x5, x6, x7, x8, rfl⟩ := len9 hvl
              have HK := Lib.hid hK
              have HC := Lib.hid hc
              have HW := Lib.hid hw
              clear hK hc hw hvl
              have hd7 := HW.out ⟨7, .data⟩ (by simp) rfl
              obtain rfl : x7 = .bool false := rel_get hd7 rfl
              simp only [putAll, Act.put, List.setIfInBounds_toArray, List.set_cons_succ, List.set_cons_zero]
              clear HW hd7
              go_wp2_with fail
              have fin := HK.out (.bool false) W (Below.refl _ _) rfl
              simp only [putAll, Act.put, List.setIfInBounds_toArray, List.set_cons_succ, List.set_cons_zero] at fin
              exact fin
          case fin =>
            intro vs W hc hvl hv
            obtain ⟨x0, x1, x2, x3, x4, x5, x6, x7, x8, rfl⟩ := len9 hvl
            have hd8 := hv 8 (by omega)
            obtain rfl : x8 = .bool false := rel_get hd8 rfl
            clear hd8
            simp only [putAll, Act.put, List.setIfInBounds_toArray, List.set_cons_succ, List.set_cons_zero]
            have HQ1 := Lib.hid hc
            clear hv hc hvl
            have rq := HRQ.out.below HQ1.out HRQ.out.lt
            have q0 : W.cell? ⟨w3.heap.size, 0, none⟩ = some (.int .i64 0) := rq.cell 0
            have q1 : W.cell? ⟨w3.heap.size, 1, none⟩ = some (.int .i64 0) := rq.cell 1
            have z0 := frozen_of_row W w3.heap.size 0 _ _ rq
            have z1 := frozen_of_row W w3.heap.size 1 _ _ rq
            have G1 := one_set W w3.heap.size 0 (.int .i64 (1))
            have G2 := one_set (W.setCell ⟨w3.heap.size, 0, none⟩ (.int .i64 (1))) w3.heap.size 1 (.int .i64 (0))
            have hjl := HRJQ.out.lt
            have hnl := HRNQ.out.lt
            have hj3 := HRJ.out.lt
            have hn3 := HRN.out.lt
            have rj5 : Row ((W.setCell ⟨w3.heap.size, 0, none⟩ (.int .i64 1)).setCell ⟨w3.heap.size, 1, none⟩ (.int .i64 0)) w1.heap.size 80 [.int .i64 2, .int .i64 a, .int .i64 b, .int .i64 0, .int .i64 0] := ((HRJQ.out.below HQ1.out hjl).kept G1 (fun e => by have := Option.some.inj e; omega)).kept G2 (fun e => by have := Option.some.inj e; omega)
            have rn5 : Row ((W.setCell ⟨w3.heap.size, 0, none⟩ (.int .i64 1)).setCell ⟨w3.heap.size, 1, none⟩ (.int .i64 0)) (w1.heap.size + 1) 77 [.int .i64 x, .int .i64 y, .int .i64 0, .int .i64 0] := ((HRNQ.out.below HQ1.out hnl).kept G1 (fun e => by have := Option.some.inj e; omega)).kept G2 (fun e => by have := Option.some.inj e; omega)
            have rq5 : Row ((W.setCell ⟨w3.heap.size, 0, none⟩ (.int .i64 1)).setCell ⟨w3.heap.size, 1, none⟩ (.int .i64 0)) w3.heap.size 48 [.int .i64 1, .int .i64 0] := (rq.set 0 (.int .i64 1)).set 1 (.int .i64 0)
            have ho5 : World.ownsRow ((W.setCell ⟨w3.heap.size, 0, none⟩ (.int .i64 1)).setCell ⟨w3.heap.size, 1, none⟩ (.int .i64 0)) w.heap.size 48 2 u14 way.length (flatP way) := ((own_grow (own_grow HO.out HQ0.out) HQ1.out).kept G1 (own_ne HO.out (by omega))).kept G2 (own_ne HO.out (by omega))
            have hb5 : Below w.heap.size w ((W.setCell ⟨w3.heap.size, 0, none⟩ (.int .i64 1)).setCell ⟨w3.heap.size, 1, none⟩ (.int .i64 0)) := ((Below.andThen (Below.andThen HW.out HQ0.out (Nat.le_refl _)) HQ1.out (Nat.le_refl _)).grown G1 (by have := HW.out.size; have := HQ0.out.size; have := HQ1.out.size; omega) (fun k e => by have := Option.some.inj e; have := HW.out.size; omega)).grown G2 (by have := HW.out.size; have := HQ0.out.size; have := HQ1.out.size; have := G1.size; omega) (fun k e => by have := Option.some.inj e; have := HW.out.size; omega)
            have nf : W.cell? ⟨w1.heap.size + 1, 1, none⟩ = some (.int .i64 y) := (HRNQ.out.below HQ1.out HRNQ.out.lt).cell 1
            clear G1 G2 hjl hnl hj3 hn3
            have j0 : ((W.setCell ⟨w3.heap.size, 0, none⟩ (.int .i64 1)).setCell ⟨w3.heap.size, 1, none⟩ (.int .i64 0)).cell? ⟨w1.heap.size, 0, none⟩ = some (.int .i64 2) := rj5.cell 0
            have j1 : ((W.setCell ⟨w3.heap.size, 0, none⟩ (.int .i64 1)).setCell ⟨w3.heap.size, 1, none⟩ (.int .i64 0)).cell? ⟨w1.heap.size, 1, none⟩ = some (.int .i64 a) := rj5.cell 1
            have j2 : ((W.setCell ⟨w3.heap.size, 0, none⟩ (.int .i64 1)).setCell ⟨w3.heap.size, 1, none⟩ (.int .i64 0)).cell? ⟨w1.heap.size, 2, none⟩ = some (.int .i64 b) := rj5.cell 2
            have j3 : ((W.setCell ⟨w3.heap.size, 0, none⟩ (.int .i64 1)).setCell ⟨w3.heap.size, 1, none⟩ (.int .i64 0)).cell? ⟨w1.heap.size, 3, none⟩ = some (.int .i64 0) := rj5.cell 3
            have j4 : ((W.setCell ⟨w3.heap.size, 0, none⟩ (.int .i64 1)).setCell ⟨w3.heap.size, 1, none⟩ (.int .i64 0)).cell? ⟨w1.heap.size, 4, none⟩ = some (.int .i64 0) := rj5.cell 4
            have n0 : ((W.setCell ⟨w3.heap.size, 0, none⟩ (.int .i64 1)).setCell ⟨w3.heap.size, 1, none⟩ (.int .i64 0)).cell? ⟨w1.heap.size + 1, 0, none⟩ = some (.int .i64 x) := rn5.cell 0
            have n1 : ((W.setCell ⟨w3.heap.size, 0, none⟩ (.int .i64 1)).setCell ⟨w3.heap.size, 1, none⟩ (.int .i64 0)).cell? ⟨w1.heap.size + 1, 1, none⟩ = some (.int .i64 y) := rn5.cell 1
            have n2 : ((W.setCell ⟨w3.heap.size, 0, none⟩ (.int .i64 1)).setCell ⟨w3.heap.size, 1, none⟩ (.int .i64 0)).cell? ⟨w1.heap.size + 1, 2, none⟩ = some (.int .i64 0) := rn5.cell 2
            have n3 : ((W.setCell ⟨w3.heap.size, 0, none⟩ (.int .i64 1)).setCell ⟨w3.heap.size, 1, none⟩ (.int .i64 0)).cell? ⟨w1.heap.size + 1, 3, none⟩ = some (.int .i64 0) := rn5.cell 3
            have p0 : ((W.setCell ⟨w3.heap.size, 0, none⟩ (.int .i64 1)).setCell ⟨w3.heap.size, 1, none⟩ (.int .i64 0)).cell? ⟨w3.heap.size, 0, none⟩ = some (.int .i64 1) := rq5.cell 0
            have p1 : ((W.setCell ⟨w3.heap.size, 0, none⟩ (.int .i64 1)).setCell ⟨w3.heap.size, 1, none⟩ (.int .i64 0)).cell? ⟨w3.heap.size, 1, none⟩ = some (.int .i64 0) := rq5.cell 1
            have RJ5 := Lib.hid rj5
            have RN5 := Lib.hid rn5
            have RQ5 := Lib.hid rq5
            have HO5 := Lib.hid ho5
            have HB5 := Lib.hid hb5
            clear rq rj5 rn5 rq5 ho5 hb5
            go_wp2_with fail
            have hcall := HCA.out (1, 0) HSP.out
            dsimp only at hcall
            refine (hcall _).mono ?_
            rintro e w6 ⟨rfl, hb6⟩
            clear hcall j0 j1 j2 j3 j4 n0 n1 n2 n3 p0 p1 q0 q1 z0 z1 nf
            have rj6 := RJ5.out.below hb6 RJ5.out.lt
            have rn6 := RN5.out.below hb6 RN5.out.lt
            have rq6 := RQ5.out.below hb6 RQ5.out.lt
            have ho6 := own_grow HO5.out hb6
            have hb6' := Below.andThen HB5.out hb6 (Nat.le_refl _)
            have n0 : w6.cell? ⟨w1.heap.size + 1, 0, none⟩ = some (.int .i64 x) := rn6.cell 0
            have n1 : w6.cell? ⟨w1.heap.size + 1, 1, none⟩ = some (.int .i64 y) := rn6.cell 1
            have n2 : w6.cell? ⟨w1.heap.size + 1, 2, none⟩ = some (.int .i64 0) := rn6.cell 2
            have n3 : w6.cell? ⟨w1.heap.size + 1, 3, none⟩ = some (.int .i64 0) := rn6.cell 3
            have f0 := frozen_of_row w6 (w1.heap.size + 1) 0 _ _ rn6
            have f1 := frozen_of_row w6 (w1.heap.size + 1) 1 _ _ rn6
            have f2 := frozen_of_row w6 (w1.heap.size + 1) 2 _ _ rn6
            have f3 := frozen_of_row w6 (w1.heap.size + 1) 3 _ _ rn6
            have G7 : w6.grownBy ((((w6.setCell ⟨w1.heap.size + 1, 0, none⟩ (.int .i64 nx)).setCell ⟨w1.heap.size + 1, 1, none⟩ (.int .i64 ny)).setCell ⟨w1.heap.size + 1, 2, none⟩ (.int .i64 0)).setCell ⟨w1.heap.size + 1, 3, none⟩ (.int .i64 0)) (some (w1.heap.size + 1)) := (((one_set _ _ _ _).trans (one_set _ _ _ _)).trans (one_set _ _ _ _)).trans (one_set _ _ _ _)
            have rn7 : Row ((((w6.setCell ⟨w1.heap.size + 1, 0, none⟩ (.int .i64 nx)).setCell ⟨w1.heap.size + 1, 1, none⟩ (.int .i64 ny)).setCell ⟨w1.heap.size + 1, 2, none⟩ (.int .i64 0)).setCell ⟨w1.heap.size + 1, 3, none⟩ (.int .i64 0)) (w1.heap.size + 1) 77 [.int .i64 nx, .int .i64 ny, .int .i64 0, .int .i64 0] := (((rn6.set 0 (.int .i64 nx)).set 1 (.int .i64 ny)).set 2 (.int .i64 0)).set 3 (.int .i64 0)
            have rj7 : Row ((((w6.setCell ⟨w1.heap.size + 1, 0, none⟩ (.int .i64 nx)).setCell ⟨w1.heap.size + 1, 1, none⟩ (.int .i64 ny)).setCell ⟨w1.heap.size + 1, 2, none⟩ (.int .i64 0)).setCell ⟨w1.heap.size + 1, 3, none⟩ (.int .i64 0)) w1.heap.size 80 [.int .i64 2, .int .i64 a, .int .i64 b, .int .i64 0, .int .i64 0] := rj6.kept G7 (fun e => by have := Option.some.inj e; omega)
            have rq7 : Row ((((w6.setCell ⟨w1.heap.size + 1, 0, none⟩ (.int .i64 nx)).setCell ⟨w1.heap.size + 1, 1, none⟩ (.int .i64 ny)).setCell ⟨w1.heap.size + 1, 2, none⟩ (.int .i64 0)).setCell ⟨w1.heap.size + 1, 3, none⟩ (.int .i64 0)) w3.heap.size 48 [.int .i64 1, .int .i64 0] := rq6.kept G7 (fun e => by have := Option.some.inj e; have := HRN.out.lt; omega)
            have ho7 : World.ownsRow ((((w6.setCell ⟨w1.heap.size + 1, 0, none⟩ (.int .i64 nx)).setCell ⟨w1.heap.size + 1, 1, none⟩ (.int .i64 ny)).setCell ⟨w1.heap.size + 1, 2, none⟩ (.int .i64 0)).setCell ⟨w1.heap.size + 1, 3, none⟩ (.int .i64 0)) w.heap.size 48 2 u14 way.length (flatP way) := ho6.kept G7 (owns_row_ne ho6 rn6 (by decide))
            have hb7 : Below w.heap.size w ((((w6.setCell ⟨w1.heap.size + 1, 0, none⟩ (.int .i64 nx)).setCell ⟨w1.heap.size + 1, 1, none⟩ (.int .i64 ny)).setCell ⟨w1.heap.size + 1, 2, none⟩ (.int .i64 0)).setCell ⟨w1.heap.size + 1, 3, none⟩ (.int .i64 0)) := hb6'.grown G7 hb6'.size (fun k e => by have := Option.some.inj e; have := BJ0.out; omega)
            have p0 : ((((w6.setCell ⟨w1.heap.size + 1, 0, none⟩ (.int .i64 nx)).setCell ⟨w1.heap.size + 1, 1, none⟩ (.int .i64 ny)).setCell ⟨w1.heap.size + 1, 2, none⟩ (.int .i64 0)).setCell ⟨w1.heap.size + 1, 3, none⟩ (.int .i64 0)).cell? ⟨w3.heap.size, 0, none⟩ = some (.int .i64 1) := rq7.cell 0
            have p1 : ((((w6.setCell ⟨w1.heap.size + 1, 0, none⟩ (.int .i64 nx)).setCell ⟨w1.heap.size + 1, 1, none⟩ (.int .i64 ny)).setCell ⟨w1.heap.size + 1, 2, none⟩ (.int .i64 0)).setCell ⟨w1.heap.size + 1, 3, none⟩ (.int .i64 0)).cell? ⟨w3.heap.size, 1, none⟩ = some (.int .i64 0) := rq7.cell 1
            have ba7 := (Below.refl ((((w6.setCell ⟨w1.heap.size + 1, 0, none⟩ (.int .i64 nx)).setCell ⟨w1.heap.size + 1, 1, none⟩ (.int .i64 ny)).setCell ⟨w1.heap.size + 1, 2, none⟩ (.int .i64 0)).setCell ⟨w1.heap.size + 1, 3, none⟩ (.int .i64 0)).heap.size ((((w6.setCell ⟨w1.heap.size + 1, 0, none⟩ (.int .i64 nx)).setCell ⟨w1.heap.size + 1, 1, none⟩ (.int .i64 ny)).setCell ⟨w1.heap.size + 1, 2, none⟩ (.int .i64 0)).setCell ⟨w1.heap.size + 1, 3, none⟩ (.int .i64 0))).alloc (Nat.le_refl _) (.cells #[.int .i64 1, .int .i64 0] 48)
            have rn7a := rn7.below ba7 rn7.lt
            have rj7a := rj7.below ba7 rj7.lt
            have ho7a := own_grow ho7 ba7
            have hb7a := Below.andThen hb7 ba7 (Nat.le_refl _)
            have hcl := Row.cell (Row.new ((((w6.setCell ⟨w1.heap.size + 1, 0, none⟩ (.int .i64 nx)).setCell ⟨w1.heap.size + 1, 1, none⟩ (.int .i64 ny)).setCell ⟨w1.heap.size + 1, 2, none⟩ (.int .i64 0)).setCell ⟨w1.heap.size + 1, 3, none⟩ (.int .i64 0)) 48 [.int .i64 1, .int .i64 0])
            have hz7 : ((((w6.setCell ⟨w1.heap.size + 1, 0, none⟩ (.int .i64 nx)).setCell ⟨w1.heap.size + 1, 1, none⟩ (.int .i64 ny)).setCell ⟨w1.heap.size + 1, 2, none⟩ (.int .i64 0)).setCell ⟨w1.heap.size + 1, 3, none⟩ (.int .i64 0)).heap.size = w6.heap.size := by simp
            have HCL := Lib.hid (fun (j : Nat) (u : Value) (hj : ([.int .i64 1, .int .i64 0] : List Value)[j]? = some u) => show (((((w6.setCell ⟨w1.heap.size + 1, 0, none⟩ (.int .i64 nx)).setCell ⟨w1.heap.size + 1, 1, none⟩ (.int .i64 ny)).setCell ⟨w1.heap.size + 1, 2, none⟩ (.int .i64 0)).setCell ⟨w1.heap.size + 1, 3, none⟩ (.int .i64 0)).alloc (.cells #[.int .i64 1, .int .i64 0] 48)).cell? ((⟨w6.heap.size, 0, none⟩ : Addr).add j) = some u by rw [Go.WideShapes.add_plain]; simp only [Nat.zero_add]; rw [← hz7, hcl]; exact hj)
            have RN7 := Lib.hid rn7a
            have RJ7 := Lib.hid rj7a
            have HO7 := Lib.hid ho7a
            have HB7 := Lib.hid hb7a
            obtain ⟨zb, hzb⟩ : ∃ zb, decide ([nx, ny, 0, 0] = [0, 0, 0, 0]) = zb := ⟨_, rfl⟩
            have heq := fun W => eq77 nx ny 0 0 0 0 0 0 W
            rw [hzb] at heq
            have HEQ := Lib.hid heq
            have HZB := Lib.hid hzb
            have hwl : way.length ≤ 100000 := by have := HRL.out.2; omega
            clear hz7 rj6 rn6 rq6 ho6 hb6' hb6 G7 rn7 rj7 rq7 ho7 hb7 ba7 rn7a rj7a ho7a hb7a hcl heq hzb
            go_wp2_with (at_builtin; refine wpList_append_own_at _ rfl _ _ 27 rfl w.heap.size 48 i0 (.agg #[.int .i64 0, .int .i64 0]) 2 16 Try.underlying27 hi hz0 hz1 hz2 rfl (by decide) u14 way.length (flatP way) rfl HO7.out ⟨w6.heap.size, 0, none⟩ 1 1 [.int .i64 1, .int .i64 0] rfl rfl HCL.out (by simp [Value.oneCell']) (by unfold maxLen; omega) (by omega) HB7.out.size ?_; intro v8 w8 hown8 hg8 hnil8 hat8; have rn8 := RN7.out.kept hg8 (own_ne3 HO7.out RN7.out (by decide)); have rj8 := RJ7.out.kept hg8 (own_ne3 HO7.out RJ7.out (by decide)); have hb8 := HB7.out.grown hg8 HB7.out.size (fun k e => (HO7.out.lt k e).1); have m0 : w8.cell? ⟨w1.heap.size + 1, 0, none⟩ = some (.int .i64 nx) := rn8.cell 0; have m1 : w8.cell? ⟨w1.heap.size + 1, 1, none⟩ = some (.int .i64 ny) := rn8.cell 1; have m2 : w8.cell? ⟨w1.heap.size + 1, 2, none⟩ = some (.int .i64 0) := rn8.cell 2; have m3 : w8.cell? ⟨w1.heap.size + 1, 3, none⟩ = some (.int .i64 0) := rn8.cell 3; have RN8 := Lib.hid rn8; have RJ8 := Lib.hid rj8; have HB8 := Lib.hid hb8; have HO8 := Lib.hid hown8; clear rn8 rj8 hb8 hown8 hg8 hnil8 hat8)
            rw [HEQ.out, Result.andThen_ok]
            clear m0 m1 m2 m3 n0 n1 n2 n3 f0 f1 f2 f3 p0 p1
            have hnz := HZB.out
            cases zb with
            | true =>
              have hz : nx = 0 ∧ ny = 0 := by have h := of_decide_eq_true hnz; simp at h; exact h
              have hr := ringL_zero HRL.out.1 HNH.out (by rw [HNX.out, hz.1, hz.2])
              subst hr
              clear hz hnz
              go_wp2_with fail
              go_ret2
              exact ⟨_, rfl, ⟨.slice none 0 0, rfl, World.ownsRow_nil _ _ _ _⟩, HB8.out⟩
            | false =>
              have hz : ¬ (nx = 0 ∧ ny = 0) := fun h => by have h2 := of_decide_eq_false hnz; exact h2 (by rw [h.1, h.2])
              have hr := ringL_next HRL.out.1 HNH.out (by rw [HNX.out]; intro h; have e1 := congrArg Prod.fst h; have e2 := congrArg Prod.snd h; exact hz ⟨e1, e2⟩)
              rw [HNX.out, HSP.out] at hr
              have HRR := Lib.hid hr
              clear hz hnz hr
              go_wp2_with fail
              go_roundg (gk - 1)
              case measure => have := HRR.out.1; omega
              case rel =>
                refine ⟨nx, ny, way ++ [(1, 0)], Lib.hid ⟨HBX.out.1, HBX.out.2, RN8.out, RJ8.out, ?_, HB8.out, HRR.out.2, ?_⟩⟩
                · rw [flatP_snoc, List.length_append, List.length_singleton]; exact HO8.out
                · rw [List.length_append, List.length_singleton]; have := HRL.out.2; have := HRR.out.1; omega
end Go.Proofs.Ytlamppplnojpbaa
