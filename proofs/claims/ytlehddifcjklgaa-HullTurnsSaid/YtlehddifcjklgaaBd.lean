import Derived.Test.YtlehddifcjklgaaBc
import Derived.Maps.OwnIn
import Derived.Maps.OwnSet
import Derived.Maps.AppendAt
import Derived.RangeFuncNested
import Derived.RangeFuncBound
import Derived.RangeFuncCalls
import Derived.RangeFuncLeaves
import Derived.Shelf.Abstract
import Derived.Shelf.RegionOpen
import Derived.WalkKit
import Derived.OwnWalkIn
import Derived.TacticsInMore
import Derived.LoopNIn
import Derived.LoopIn
import Derived.WalkMore
import Derived.Sort.QuietThIn
import Derived.Sort.QuietTacIn
import Derived.Sort.BigQuietIn
import Derived.WalkSpells
import Derived.WalkLawsBesides
import Derived.BigQuiet
import Derived.Deep.QuietTactic
import Derived.Lib.Hide
import Derived.Deep.RegionHeld3
import Derived.StillTailTactics
import Derived.Deep.LoopGhost
import Derived.Lib.IndexAny
namespace Go.Proofs.Ytlehddifcjklgaa
open Go.RowKit Go.Shelf
attribute [local go_sem] Oper.semAt_some
set_option maxHeartbeats 1000000 in
theorem Stands_bad (ps : List Pt) (a : Option Addr) (c : Nat) (w : World) (hp : PtsA w a ps c) (hl : ps.length ≤ 1000000) (ht : twrB ps = false) :
    Calls Try.prog 48 #[.slice a ps.length c] w fun e w' => e = .returned (.tuple #[.int .i64 0, .bool false, .int .i64 31]) ∧ Below w.heap.size w w' := by
  have HC := CheckTower_all ps a c w hp hl
  rw [ht] at HC
  go_enter Try.func48, Try.ntmps48
  go_wp2_with fail
  refine HC.mono ?_
  rintro e w1 ⟨rfl, hb⟩
  go_wp2_with fail
  exact bodyPost_ret (v := .tuple #[.int .i64 0, .bool false, .int .i64 31]) (by simp [results, Try.results48, go_sem]) rfl ⟨rfl, hb⟩
set_option maxHeartbeats 1000000 in
theorem Reach_bad (ps : List Pt) (a : Option Addr) (c : Nat) (w : World) (hp : PtsA w a ps c) (hl : ps.length ≤ 1000000) (ht : twrB ps = false) :
    Calls Try.prog 49 #[.slice a ps.length c] w fun e w' => e = .returned (.tuple #[.int .i64 0, .int .i64 31]) ∧ Below w.heap.size w w' := by
  have HC := CheckTower_all ps a c w hp hl
  rw [ht] at HC
  go_enter Try.func49, Try.ntmps49
  go_wp2_with fail
  refine HC.mono ?_
  rintro e w1 ⟨rfl, hb⟩
  go_wp2_with fail
  exact bodyPost_ret (v := .tuple #[.int .i64 0, .int .i64 31]) (by simp [results, Try.results49, go_sem]) rfl ⟨rfl, hb⟩
set_option maxHeartbeats 1000000 in
theorem Balance_bad (ps : List Pt) (a : Option Addr) (c : Nat) (pl : Int) (w : World) (hp : PtsA w a ps c) (hl : ps.length ≤ 1000000) (ht : twrB ps = false) :
    Calls Try.prog 50 #[.slice a ps.length c, .int .i64 pl] w fun e w' => e = .returned (.tuple #[.agg #[.int .i64 0, .int .i64 0], .int .i64 31]) ∧ Below w.heap.size w w' := by
  obtain ⟨W0, hW0⟩ : ∃ W0, W0 = w.alloc (.cells #[.int .i64 0, .int .i64 0] 58) := ⟨_, rfl⟩
  have B0 := Lib.hid (show Below w.heap.size w W0 by rw [hW0]; exact (Below.refl _ _).alloc (Nat.le_refl _) _)
  have r0 := Lib.hid (show Row W0 w.heap.size 58 [.int .i64 0, .int .i64 0] by rw [hW0]; exact Row.new _ _ _)
  have HC := CheckTower_all ps a c W0 (hp.grow B0.out) hl
  rw [ht] at HC
  have HH := Lib.hid HC
  clear HC hp
  go_enter Try.func50, Try.ntmps50
  go_wp2_with fail
  rw [← hW0]
  clear hW0
  refine HH.out.mono ?_
  rintro e w1 ⟨rfl, hb⟩
  have T1 := Lib.hid (Below.andThen B0.out hb (Nat.le_refl _))
  obtain ⟨z0, z1, z2, z3⟩ := two_cells (r0.out.below hb r0.out.lt)
  clear hb HH
  go_wp2_with fail
  obtain ⟨q0, q1⟩ := two_set (x := .int .i64 0) (y := .int .i64 0) z0 z1
  refine bodyPost_ret (v := .tuple #[.agg #[.int .i64 0, .int .i64 0], .int .i64 31]) (by simp [results, Try.results50, go_sem, q0, q1]) rfl ⟨rfl, ?_⟩
  exact (T1.out.setCell (p := ⟨w.heap.size, 0, none⟩) (by simp) _).setCell (p := ⟨w.heap.size, 1, none⟩) (by simp) _
set_option maxHeartbeats 1000000 in
theorem Balance_arg (ps : List Pt) (a : Option Addr) (c : Nat) (pl : Int) (w : World) (hp : PtsA w a ps c) (hl : ps.length ≤ 1000000) (ht : twrB ps = true) (hpl : pl < 0 ∨ (ps.length : Int) ≤ pl) :
    Calls Try.prog 50 #[.slice a ps.length c, .int .i64 pl] w fun e w' => e = .returned (.tuple #[.agg #[.int .i64 0, .int .i64 0], .int .i64 1]) ∧ Below w.heap.size w w' := by
  obtain ⟨W0, hW0⟩ : ∃ W0, W0 = w.alloc (.cells #[.int .i64 0, .int .i64 0] 58) := ⟨_, rfl⟩
  have B0 := Lib.hid (show Below w.heap.size w W0 by rw [hW0]; exact (Below.refl _ _).alloc (Nat.le_refl _) _)
  have r0 := Lib.hid (show Row W0 w.heap.size 58 [.int .i64 0, .int .i64 0] by rw [hW0]; exact Row.new _ _ _)
  have HC := CheckTower_all ps a c W0 (hp.grow B0.out) hl
  rw [ht] at HC
  have HH := Lib.hid HC
  have hdd : decide (pl < 0) = true ∨ (decide (pl < 0) = false ∧ decide ((ps.length : Int) ≤ pl) = true) := by
    by_cases h : pl < 0
    · exact .inl (decide_eq_true h)
    · exact .inr ⟨decide_eq_false h, decide_eq_true (by omega)⟩
  clear HC hp
  go_enter Try.func50, Try.ntmps50
  go_wp2_with fail
  rw [← hW0]
  clear hW0
  refine HH.out.mono ?_
  rintro e w1 ⟨rfl, hb⟩
  have T1 := Lib.hid (Below.andThen B0.out hb (Nat.le_refl _))
  obtain ⟨z0, z1, z2, z3⟩ := two_cells (r0.out.below hb r0.out.lt)
  clear hb HH hpl
  rcases hdd with dd | ⟨dd, de⟩
  all_goals
    go_wp2_with fail
    obtain ⟨q0, q1⟩ := two_set (x := .int .i64 0) (y := .int .i64 0) z0 z1
    refine bodyPost_ret (v := .tuple #[.agg #[.int .i64 0, .int .i64 0], .int .i64 1]) (by simp [results, Try.results50, go_sem, q0, q1]) rfl ⟨rfl, ?_⟩
    exact (T1.out.setCell (p := ⟨w.heap.size, 0, none⟩) (by simp) _).setCell (p := ⟨w.heap.size, 1, none⟩) (by simp) _
set_option maxHeartbeats 1000000 in
theorem Balance_any (ps : List Pt) (b c pl : Nat) (w : World) (hp : PtsAt w b 0 ps) (hc : ps.length ≤ c) (ht : twrB ps = true) (hpl : pl < ps.length) :
    Calls Try.prog 50 #[.slice (some ⟨b, 0, none⟩) ps.length c, .int .i64 (pl : Int)] w fun e w' => e = .returned (.tuple #[.agg #[.int .i64 (balF (ps.drop pl)).1, .int .i64 (balF (ps.drop pl)).2], .int .i64 0]) ∧ Below w.heap.size w w' := by
  obtain ⟨h1, h12⟩ := twr_len ht
  have hbd' : ∀ i (h : i < (ps.drop pl).length), Bd 1000 (ps.drop pl)[i].1 ∧ 1 ≤ (ps.drop pl)[i].2 ∧ (ps.drop pl)[i].2 ≤ 100 := fun i h => by
    rw [List.getElem_drop]; exact twr_bd ht _
  have hl' : (ps.drop pl).length = ps.length - pl := List.length_drop ..
  have HBAL := Lib.hid (fun W (h : PtsAt W b 0 ps) => balance_any (ps.drop pl) b (pl * 2) (c - pl) W (h.drop pl) (by omega) (by omega) hbd')
  rw [hl'] at HBAL
  have s1 : ∀ w, (Instr.slice 22 (.slice (some ⟨b, 0, none⟩) ps.length c) (some (.int .i64 (pl : Int))) none none).run Try.prog w = .ok (.slice (some ⟨b, pl * 2, none⟩) (ps.length - pl) (c - pl)) w := fun w => slice_from2 b _ c pl hpl hc w
  obtain ⟨E1, E2, hE⟩ : ∃ E1 E2, balF (ps.drop pl) = (E1, E2) := ⟨_, _, rfl⟩
  obtain ⟨n1, n2⟩ := balF_bd (ps := ps.drop pl) (by omega) hbd'
  rw [hE] at HBAL n1 n2
  rw [hE]
  dsimp only at HBAL n1 n2
  dsimp only
  have w1' : wrap64 E1 = E1 := (IntWalk.i64_left _).symm.trans (i64_bd n1 (by omega))
  have w2' : wrap64 E2 = E2 := (IntWalk.i64_left _).symm.trans (i64_bd n2 (by omega))
  have d1 : decide ((pl : Int) < 0) = false := decide_eq_false (by omega)
  have d2 : decide ((ps.length : Int) ≤ (pl : Int)) = false := decide_eq_false (by omega)
  have HP := Lib.hid hp
  obtain ⟨W0, hW0⟩ : ∃ W0, W0 = w.alloc (.cells #[.int .i64 0, .int .i64 0] 58) := ⟨_, rfl⟩
  have B0 := Lib.hid (show Below w.heap.size w W0 by rw [hW0]; exact (Below.refl _ _).alloc (Nat.le_refl _) _)
  have r0 := Lib.hid (show Row W0 w.heap.size 58 [.int .i64 0, .int .i64 0] by rw [hW0]; exact Row.new _ _ _)
  have HC := CheckTower_any ps b 0 c W0 (hp.grow B0.out) (by omega)
  rw [ht] at HC
  have HH := Lib.hid HC
  clear HC hp hbd' hE n1 n2 ht hl'
  go_enter Try.func50, Try.ntmps50
  go_wp2_with fail
  rw [← hW0]
  clear hW0
  refine HH.out.mono ?_
  rintro e w1 ⟨rfl, hb⟩
  have T1 := Lib.hid (Below.andThen (Below.refl W0.heap.size W0) hb (Nat.le_refl _))
  clear hb HH
  go_wp2_with fail
  refine (HBAL.out _ ((HP.out.grow B0.out).grow T1.out)).mono ?_
  rintro e w2 ⟨rfl, hb⟩
  have T2 := Lib.hid (Below.andThen T1.out hb (Nat.le_refl _))
  have r2 := (r0.out.below T2.out r0.out.lt).below (B := w2.heap.size) ((Below.refl _ _).alloc (Nat.le_refl _) (.cells #[.int .i64 E1, .int .i64 E2] 88)) (Nat.lt_of_lt_of_le r0.out.lt T2.out.size)
  obtain ⟨z0, z1, z2, z3⟩ := two_cells r2
  clear hb HBAL r2
  go_wp2_with fail
  obtain ⟨q0, q1⟩ := two_set (x := .int .i64 E1) (y := .int .i64 E2) z0 z1
  refine bodyPost_ret (v := .tuple #[.agg #[.int .i64 E1, .int .i64 E2], .int .i64 0]) (by simp [results, Try.results50, go_sem, q0, q1]) rfl ⟨rfl, ?_⟩
  exact ((Below.al (Below.andThen B0.out T2.out (Nat.le_refl _)) (Nat.le_refl _) _).setCell (p := ⟨w.heap.size, 0, none⟩) (by simp) _).setCell (p := ⟨w.heap.size, 1, none⟩) (by simp) _
set_option maxHeartbeats 1000000 in
theorem Reach_any (ps : List Pt) (b c : Nat) (w : World) (hp : PtsAt w b 0 ps) (hc : ps.length ≤ c) (ht : twrB ps = true) :
    Calls Try.prog 49 #[.slice (some ⟨b, 0, none⟩) ps.length c] w fun e w' => e = .returned (.tuple #[.int .i64 (rch ps ps.length), .int .i64 0]) ∧ Below w.heap.size w w' := by
  obtain ⟨h1, h12⟩ := twr_len ht
  have HCT := CheckTower_any ps b 0 c w hp (by omega)
  rw [ht] at HCT
  have HP := Lib.hid hp
  have HBD := Lib.hid (fun i (hi : i < ps.length) => twr_bd ht hi)
  have HCT' := Lib.hid HCT
  have dn : decide ((0 : Int) < (ps.length : Int)) = true := decide_eq_true (by omega)
  clear hp ht HCT
  go_enter Try.func49, Try.ntmps49
  go_wp2_with fail
  refine HCT'.out.mono ?_
  rintro e w1 ⟨rfl, hb1⟩
  have T1 := Lib.hid hb1
  clear hb1 HCT'
  have hp1 := HP.out.grow T1.out
  have x0 := hp1.x 0 (by omega)
  have y0 := hp1.y 0 (by omega)
  have b0 := HBD.out 0 (by omega)
  have r0 := Lib.hid (show rch ps 0 = ps[0].1 + ps[0].2 by unfold rch; rw [ptAt_lt (by omega)])
  generalize ps[0] = q at *
  obtain ⟨q1, q2⟩ := q
  dsimp only at x0 y0 b0 r0
  rw [show 0 + 0 * 2 = 0 from rfl] at x0
  rw [show 0 + 0 * 2 + 1 = 1 from rfl] at y0
  have k1 := Lib.hid (show Bd 100000000 q1 by unfold Bd at *; omega)
  have k2 := Lib.hid (show Bd 100000000 q2 by unfold Bd at *; omega)
  clear hp1 b0
  go_wp2_with fail
  refine (right_any q1 q2 w1 k1.out k2.out).mono ?_
  rintro e w2 ⟨rfl, hb⟩
  have T2 := Lib.hid (Below.andThen T1.out hb (Nat.le_refl _))
  clear hb x0 y0 k1 k2
  go_wp2_with fail
  go_loopw [5, 19] (fun x i wr => ∃ k : Nat, k ≤ ps.length ∧ i = .int .i64 (k : Int) ∧ Hid (x = .int .i64 (rch ps k)) ∧ Hid (Below w.heap.size w wr)) (fun _ i _ => ps.length - (intOf i).toNat)
  case atStart => exact ⟨0, by omega, rfl, Lib.hid (by rw [r0.out]), T2⟩
  case round =>
    obtain ⟨k, hk, rfl, HX, HB⟩ := hrel
    have hxv := HX.out
    by_cases hlt : k < ps.length
    · have hd : decide ((k : Int) < (ps.length : Int)) = true := decide_eq_true (by omega)
      have hp1 := HP.out.grow HB.out
      have hx := hp1.x k hlt
      have hy := hp1.y k hlt
      rw [Nat.zero_add] at hx hy
      have hb := HBD.out k hlt
      have hs : rch ps (k + 1) = max (rch ps k) (ps[k].1 + ps[k].2) := by rw [← ptAt_lt hlt]; rfl
      generalize ps[k] = q at *
      obtain ⟨q1, q2⟩ := q
      generalize rch ps k = m at *
      dsimp only at hx hy hb hs
      subst hxv
      have k1 := Lib.hid (show Bd 100000000 q1 by unfold Bd at *; omega)
      have k2 := Lib.hid (show Bd 100000000 q2 by unfold Bd at *; omega)
      have HS := Lib.hid hs
      clear hs hb HX hp1
      have T3 := Lib.hid (Below.al HB.out (Nat.le_refl _) (.cells #[.int .i64 q1, .int .i64 q2] 58))
      go_wp2_with fail
      refine (right_any q1 q2 _ k1.out k2.out).mono ?_
      rintro e w3 ⟨rfl, hb⟩
      have T4 := Lib.hid (Below.andThen T3.out hb (Nat.le_refl _))
      clear hb hx hy T3
      go_wp2_with fail
      all_goals
        go_roundw
        case rel =>
          refine ⟨k + 1, by omega, rfl, Lib.hid ?_, T4⟩
          rw [HS.out]
          first
            | rfl
            | (congr 1; omega)
        case measure => simp [intOf]; omega
    · have hd : decide ((k : Int) < (ps.length : Int)) = false := decide_eq_false (by omega)
      obtain rfl : k = ps.length := by omega
      subst hxv
      clear HX
      go_wp2_with fail
      exact bodyPost_ret (v := .tuple #[.int .i64 (rch ps ps.length), .int .i64 0]) (by simp [results, Try.results49, go_sem]) rfl ⟨rfl, HB.out⟩
end Go.Proofs.Ytlehddifcjklgaa
