import Derived.Test.YtlamppplnojpbaaLg
import Derived.Test.YtlamppplnojpbaaZa
import Derived.Laws.AppendOwn
import Derived.ChangeKeysEq
import Derived.Maps.RangeWalk
import Derived.Maps.OwnIn
import Derived.Maps.AppendAt
import Derived.RangeFuncNested
import Derived.RangeFuncBound
import Derived.RangeFuncCalls
import Derived.RangeFuncLeaves
import Derived.Shelf.Abstract
import Derived.Shelf.RegionOpen
import Derived.WalkKit
import Derived.WalkMore
import Derived.OwnWalkIn
import Derived.TacticsInMore
import Derived.LoopNIn
import Derived.LoopIn
import Derived.WalkSpells
import Derived.WalkLawsBesides
import Derived.BigQuiet
import Derived.Deep.QuietTactic
import Derived.Lib.Hide
import Derived.Deep.RegionHeld3
import Derived.StillTailTactics
import Derived.Deep.LoopGhost
import Derived.Maps.OwnSet
import Derived.Lib.IndexAny
import Derived.Sort.QuietThIn
import Derived.Sort.QuietTacIn
import Derived.Sort.BigQuietIn
import Derived.Laws.OwnMore
namespace Go.Proofs.Ytlamppplnojpbaa
open Go.RowKit Go.Shelf
attribute [local go_sem] Oper.semAt_some
set_option maxRecDepth 100000 in
set_option maxHeartbeats 1000000 in
theorem few_any (zs : List Int) (v : Value) (most : Nat) (hm : 1 ≤ most ∧ most ≤ 100) (w : World) (hv : SlI w v zs) (hl : zs.length ≤ 9223372036854775807) :
    Calls Try.prog 16 #[v, .int .i64 (most : Int)] w fun e w' => ∃ s, e = .returned s ∧ w'.ownsRow w.heap.size 3 1 s (zs.take most).length ((zs.take most).map encI) ∧ Below w.heap.size w w' := by
  obtain ⟨i0, hi, hz0, hz1, hz2⟩ := info_parts info3
  by_cases h0 : zs = []
  · subst h0
    obtain ⟨a, c, rfl, hc, _⟩ := hv
    rw [List.length_nil]
    rcases a with _ | a
    all_goals
      go_enter Try.func16, Try.ntmps16
      go_wp2_with fail
      try simp only [Sem.run_pure, Result.andThen_ok]
      go_wp2_with fail
      go_ret
      exact ⟨_, rfl, World.ownsRow_nil _ _ _ _, Below.refl _ _⟩
  · obtain ⟨ub, uo, uc, rfl, huc, hub, hui⟩ := sli_cells hv h0
    have hpos : 0 < zs.length := List.length_pos_iff.2 h0
    have HTK := Lib.hid (show IntsAt w ub uo (zs.take most) from ⟨.inr hub, fun i h => by
      rw [hui.at_ i (by rw [List.length_take] at h; omega), List.getElem_take]⟩)
    have HTL := Lib.hid (List.length_take (i := most) (l := zs))
    rcases Nat.lt_trichotomy zs.length most with hc | hc | hc
    · have hL : zs.take most = zs := List.take_of_length_le (by omega)
      rw [hL] at HTK HTL ⊢
      have HL := Lib.hid (show zs.length = zs.length by omega)
      clear hv hui hub h0 hL
      go_enter Try.func16, Try.ntmps16
      go_wp2_with (at_builtin; refine wpList_append_own_at _ rfl _ _ 22 rfl w.heap.size 3 i0 (.int .i64 0) 1 8 Try.underlying22 hi hz0 hz1 hz2 rfl (by decide) (.slice none 0 0) 0 [] rfl (World.ownsRow_nil _ _ _ _) ⟨ub, uo, none⟩ zs.length uc (zs.map encI) rfl (by rw [List.length_map, HL.out]; omega) (HTK.out).cells (fun x hx => by obtain ⟨y, _, rfl⟩ := List.mem_map.1 hx; simp [Value.oneCell', encI]) (by unfold maxLen; omega) (by omega) (Nat.le_refl _) ?_; intro v' w2 hown hgrow hnil hat'; have HR2 := Lib.hid (show World.ownsRow w2 w.heap.size 3 1 v' zs.length (zs.map encI) by simpa using hown); have HB2 := Lib.hid (show Below w.heap.size w w2 from (Below.refl _ _).grown hgrow (Nat.le_refl _) (fun k e => by cases e)); clear hown hgrow hnil hat')
      all_goals try (exfalso; omega)
      all_goals go_ret
      all_goals exact ⟨_, rfl, HR2.out, HB2.out⟩
    · have hL : zs.take most = zs := List.take_of_length_le (by omega)
      rw [hL] at HTK HTL ⊢
      subst hc
      have HL := Lib.hid (show zs.length = zs.length by omega)
      clear hv hui hub h0 hL
      go_enter Try.func16, Try.ntmps16
      go_wp2_with (at_builtin; refine wpList_append_own_at _ rfl _ _ 22 rfl w.heap.size 3 i0 (.int .i64 0) 1 8 Try.underlying22 hi hz0 hz1 hz2 rfl (by decide) (.slice none 0 0) 0 [] rfl (World.ownsRow_nil _ _ _ _) ⟨ub, uo, none⟩ zs.length uc (zs.map encI) rfl (by rw [List.length_map, HL.out]; omega) (HTK.out).cells (fun x hx => by obtain ⟨y, _, rfl⟩ := List.mem_map.1 hx; simp [Value.oneCell', encI]) (by unfold maxLen; omega) (by omega) (Nat.le_refl _) ?_; intro v' w2 hown hgrow hnil hat'; have HR2 := Lib.hid (show World.ownsRow w2 w.heap.size 3 1 v' zs.length (zs.map encI) by simpa using hown); have HB2 := Lib.hid (show Below w.heap.size w w2 from (Below.refl _ _).grown hgrow (Nat.le_refl _) (fun k e => by cases e)); clear hown hgrow hnil hat')
      all_goals try (exfalso; omega)
      all_goals go_ret
      all_goals exact ⟨_, rfl, HR2.out, HB2.out⟩
    · have hL : (zs.take most).length = most := by rw [List.length_take]; omega
      rw [hL]
      have HL := Lib.hid (show (zs.take most).length = most by omega)
      clear hv hui hub h0 hL
      go_enter Try.func16, Try.ntmps16
      go_wp2_with (at_builtin; refine wpList_append_own_at _ rfl _ _ 22 rfl w.heap.size 3 i0 (.int .i64 0) 1 8 Try.underlying22 hi hz0 hz1 hz2 rfl (by decide) (.slice none 0 0) 0 [] rfl (World.ownsRow_nil _ _ _ _) ⟨ub, uo, none⟩ most uc ((zs.take most).map encI) rfl (by rw [List.length_map, HL.out]; omega) (HTK.out).cells (fun x hx => by obtain ⟨y, _, rfl⟩ := List.mem_map.1 hx; simp [Value.oneCell', encI]) (by unfold maxLen; omega) (by omega) (Nat.le_refl _) ?_; intro v' w2 hown hgrow hnil hat'; have HR2 := Lib.hid (show World.ownsRow w2 w.heap.size 3 1 v' most ((zs.take most).map encI) by simpa using hown); have HB2 := Lib.hid (show Below w.heap.size w w2 from (Below.refl _ _).grown hgrow (Nat.le_refl _) (fun k e => by cases e)); clear hown hgrow hnil hat')
      all_goals try (exfalso; omega)
      all_goals go_ret
      all_goals exact ⟨_, rfl, HR2.out, HB2.out⟩
set_option maxRecDepth 100000 in
set_option maxHeartbeats 1000000 in
theorem refJugs_any (zs : List Int) (v : Value) (w : World) (hv : SlI w v zs) (hl : zs.length ≤ 1000) : Calls Try.prog 17 #[v] w fun e w' => e = .returned (.bool (jugsB zs)) ∧ Below w.heap.size w w' := by
  obtain ⟨p, c, rfl, hc, hs⟩ := hv
  have HS := Lib.hid hs
  clear hs
  go_enter Try.func17, Try.ntmps17
  go_wp2_with fail
  go_loopw [3] (fun iv wx => ∃ i : Nat, i ≤ zs.length ∧ iv = .int .i64 (i : Int) ∧ Hid (Below w.heap.size w wx) ∧ Hid ((zs.take i).all sizeB = true)) (fun iv _ => (zs.length - intOf iv).toNat)
  case atStart => exact ⟨0, by omega, rfl, Lib.hid (Below.refl _ _), Lib.hid rfl⟩
  case round =>
    obtain ⟨k, hk, rfl, HB, HK⟩ := hrel
    have kw : IntKind.i64.wrap ((k : Int) + 1) = ((k + 1 : Nat) : Int) := by rw [i64_of _ (by omega) (by omega)]; omega
    by_cases hlt : k < zs.length
    · have hd : decide ((k : Int) < (zs.length : Int)) = true := decide_eq_true (by omega)
      have hdn : decide (k < zs.length) = true := decide_eq_true hlt
      obtain ⟨b, o, rfl, hbl, hi⟩ : ∃ b o, p = some ⟨b, o, none⟩ ∧ b < w.heap.size ∧ IntsAt w b o zs := HS.out.resolve_left (fun e => by rw [e] at hlt; simp at hlt)
      have hx := below_at HB.out hbl (hi.at_ k hlt)
      have HM := Lib.hid (List.getElem_mem hlt)
      have HSN := Lib.hid (show (zs.take (k + 1)).all sizeB = sizeB zs[k] by
        rw [List.take_succ_eq_append_getElem hlt, List.all_append, HK.out]; simp)
      clear HK hi
      generalize zs[k] = z at *
      by_cases hz1 : z < 1
      · have d3 : decide (z < 1) = true := decide_eq_true hz1
        have fin := Lib.hid (jugsB_bad z HM.out (.inl hz1))
        go_wp2_with fail
        go_ret
        exact ⟨ret_bool fin.out.symm, HB.out⟩
      have d3 : decide (z < 1) = false := decide_eq_false hz1
      by_cases hz2 : 12 < z
      · have d4 : decide (12 < z) = true := decide_eq_true hz2
        have fin := Lib.hid (jugsB_bad z HM.out (.inr hz2))
        go_wp2_with fail
        go_ret
        exact ⟨ret_bool fin.out.symm, HB.out⟩
      have d4 : decide (12 < z) = false := decide_eq_false hz2
      go_wp2_with fail
      go_roundw
      case rel => exact ⟨k + 1, by omega, by simp, HB, Lib.hid (by rw [HSN.out]; unfold sizeB; simp; omega)⟩
      case measure => simp [intOf]; omega
    · have hd : decide ((k : Int) < (zs.length : Int)) = false := decide_eq_false (by omega)
      have hdn : decide (k < zs.length) = false := decide_eq_false hlt
      have hfin : jugsB zs = (decide (1 ≤ zs.length) && decide (zs.length ≤ 4)) := by
        have h := HK.out
        rw [List.take_of_length_le (by omega)] at h
        unfold jugsB; rw [h, Bool.and_true]
      have HF := Lib.hid hfin
      clear hfin HK
      by_cases h1 : 1 ≤ zs.length
      · have e1 : decide ((zs.length : Int) ≥ 1) = true := decide_eq_true (by omega)
        have e1n : decide (1 ≤ zs.length) = true := decide_eq_true h1
        by_cases h4 : zs.length ≤ 4
        · have e2 : decide ((zs.length : Int) ≤ 4) = true := decide_eq_true (by omega)
          have e2n : decide (zs.length ≤ 4) = true := decide_eq_true h4
          have HF2 := Lib.hid (show jugsB zs = true by rw [HF.out, e1n, e2n]; rfl)
          go_wp2_with fail
          go_ret
          exact ⟨ret_bool HF2.out.symm, HB.out⟩
        · have e2 : decide ((zs.length : Int) ≤ 4) = false := decide_eq_false (by omega)
          have e2n : decide (zs.length ≤ 4) = false := decide_eq_false h4
          have HF2 := Lib.hid (show jugsB zs = false by rw [HF.out, e1n, e2n]; rfl)
          go_wp2_with fail
          go_ret
          exact ⟨ret_bool HF2.out.symm, HB.out⟩
      · have e1 : decide ((zs.length : Int) ≥ 1) = false := decide_eq_false (by omega)
        have e1n : decide (1 ≤ zs.length) = false := decide_eq_false h1
        have HF2 := Lib.hid (show jugsB zs = false by rw [HF.out, e1n]; rfl)
        go_wp2_with fail
        go_ret
        exact ⟨ret_bool HF2.out.symm, HB.out⟩
set_option maxRecDepth 100000 in
set_option maxHeartbeats 1000000 in
theorem refFilling_any (zs fs : List Int) (v u : Value) (w : World) (hv : SlI w v zs) (hu : SlI w u fs) (hl : zs.length ≤ 1000) (hl2 : fs.length ≤ 1000) :
    Calls Try.prog 22 #[v, u] w fun e w' => e = .returned (.bool (fitsB zs fs)) ∧ Below w.heap.size w w' := by
  obtain ⟨a, c, rfl, hc, hs⟩ := hv
  obtain ⟨a', c', rfl, hc', hs'⟩ := hu
  by_cases hne : fs.length = zs.length
  case neg =>
    have fin := Lib.hid (show fitsB zs fs = false by unfold fitsB; simp [hne])
    have d1 : decide ((fs.length : Int) = (zs.length : Int)) = false := decide_eq_false (by omega)
    have d2 : ((fs.length : Int) != (zs.length : Int)) = true := by simp; omega
    clear hs hs' hne
    go_enter Try.func22, Try.ntmps22
    go_wp2_with fail
    go_ret
    exact ⟨ret_bool fin.out.symm, Below.refl _ _⟩
  case pos =>
    rw [hne]
    rw [hne] at hc'
    have HNE := Lib.hid hne
    have HS := Lib.hid hs
    have HS' := Lib.hid hs'
    clear hs hs' hne
    go_enter Try.func22, Try.ntmps22
    go_wp2_with fail
    go_loopw [5] (fun i wr => ∃ k : Nat, k ≤ zs.length ∧ i = .int .i64 (k : Int) ∧ Hid (Below w.heap.size w wr) ∧ Hid (∀ j, j < k → 0 ≤ fs.getD j 0 ∧ fs.getD j 0 ≤ zs.getD j 0)) (fun i _ => zs.length - (intOf i).toNat)
    case atStart => exact ⟨0, by omega, rfl, Lib.hid (Below.refl _ _), Lib.hid (fun j hj => by omega)⟩
    case round =>
      obtain ⟨k, hk, rfl, HB, HK⟩ := hrel
      have kw : IntKind.i64.wrap ((k : Int) + 1) = ((k + 1 : Nat) : Int) := by rw [i64_of _ (by omega) (by omega)]; omega
      by_cases hlt : k < zs.length
      · have hd : decide ((k : Int) < (zs.length : Int)) = true := decide_eq_true (by omega)
        have hdn : decide (k < zs.length) = true := decide_eq_true hlt
        have hkf : k < fs.length := by have := HNE.out; omega
        obtain ⟨b, o, rfl, hbl, hi⟩ : ∃ b o, a = some ⟨b, o, none⟩ ∧ b < w.heap.size ∧ IntsAt w b o zs := HS.out.resolve_left (fun e => by rw [e] at hlt; simp at hlt)
        obtain ⟨b', o', rfl, hbl', hi'⟩ : ∃ b o, a' = some ⟨b, o, none⟩ ∧ b < w.heap.size ∧ IntsAt w b o fs := HS'.out.resolve_left (fun e => by rw [e] at hkf; simp at hkf)
        have hx := below_at HB.out hbl (hi.at_ k hlt)
        have hy := below_at HB.out hbl' (hi'.at_ k hkf)
        rw [← getD_lt hlt] at hx
        rw [← getD_lt hkf] at hy
        have HBAD := Lib.hid (show (fs.getD k 0 < 0 ∨ zs.getD k 0 < fs.getD k 0) → fitsB zs fs = false from fun h => by
          unfold fitsB
          rw [Bool.and_eq_false_iff]; right
          rw [List.all_eq_false]
          exact ⟨k, List.mem_range.2 hkf, by simp only [Bool.and_eq_true, decide_eq_true_eq]; omega⟩)
        have HOK := Lib.hid (show (0 ≤ fs.getD k 0 ∧ fs.getD k 0 ≤ zs.getD k 0) → ∀ j, j < k + 1 → 0 ≤ fs.getD j 0 ∧ fs.getD j 0 ≤ zs.getD j 0 from fun h j hj => by
          rcases Nat.lt_or_ge j k with h' | h'
          · exact HK.out j h'
          · rw [show j = k by omega]; exact h)
        clear HK hi hi' hkf
        generalize zs.getD k 0 = z at *
        generalize fs.getD k 0 = y at *
        by_cases hz1 : y < 0
        · have d3 : decide (y < 0) = true := decide_eq_true hz1
          have fin := Lib.hid (HBAD.out (.inl hz1))
          go_wp2_with fail
          go_quiet (fail)
          go_wp2_with fail
          go_ret
          exact ⟨ret_bool fin.out.symm, below_drewN HB.out _⟩
        have d3 : decide (y < 0) = false := decide_eq_false hz1
        by_cases hz2 : z < y
        · have d4 : decide (z < y) = true := decide_eq_true hz2
          have fin := Lib.hid (HBAD.out (.inr hz2))
          go_wp2_with fail
          go_quiet (fail)
          go_wp2_with fail
          go_ret
          exact ⟨ret_bool fin.out.symm, below_drewN HB.out _⟩
        have d4 : decide (z < y) = false := decide_eq_false hz2
        have fin := Lib.hid (HOK.out ⟨by omega, by omega⟩)
        go_wp2_with fail
        go_quiet (fail)
        go_wp2_with fail
        go_roundw
        case rel => exact ⟨k + 1, by omega, by simp, Lib.hid (below_drewN HB.out _), fin⟩
        case measure => simp [intOf]; omega
      · have hd : decide ((k : Int) < (zs.length : Int)) = false := decide_eq_false (by omega)
        have hdn : decide (k < zs.length) = false := decide_eq_false hlt
        have fin := Lib.hid (show fitsB zs fs = true by
          unfold fitsB
          rw [Bool.and_eq_true, decide_eq_true_eq, List.all_eq_true]
          refine ⟨HNE.out, fun i hi => ?_⟩
          have := HK.out i (by have := List.mem_range.1 hi; have := HNE.out; omega)
          simp only [Bool.and_eq_true, decide_eq_true_eq]; exact this)
        clear HK
        go_wp2_with fail
        go_ret
        exact ⟨ret_bool fin.out.symm, HB.out⟩
set_option maxRecDepth 100000 in
set_option maxHeartbeats 1000000 in
theorem CheckFilling_any (zs fs : List Int) (v u : Value) (w : World) (hv : SlI w v zs) (hu : SlI w u fs) (hl : zs.length ≤ 1000) :
    Calls Try.prog 23 #[v, u] w fun e w' => e = .returned (.int .i64 (errA zs [fs])) ∧ Below w.heap.size w w' := by
  have HC := Lib.hid (check1 hv (by omega) hu)
  obtain ⟨a1, c1, e1⟩ : ∃ a1 c1, u = .slice a1 fs.length c1 := by obtain ⟨a, c, h, _⟩ := hu; exact ⟨a, c, h⟩
  clear hv hu hl
  generalize fs.length = k1 at *
  subst e1
  go_enter Try.func23, Try.ntmps23
  go_wp2_with fail
  refine HC.out.mono ?_
  rintro e w1 ⟨rfl, hb⟩
  have HB := Lib.hid hb
  clear hb HC
  go_wp2_with fail
  go_ret
  exact ⟨rfl, HB.out⟩
set_option maxRecDepth 100000 in
set_option maxHeartbeats 1000000 in
theorem Reached_err (zs fs : List Int) (v u : Value) (cl : Bool) (w : World) (hv : SlI w v zs) (hl : zs.length ≤ 1000000) (hu : SlI w u fs) (k : Int) (he : errA zs [fs] = k) (hk : k ≠ 0) :
    Calls Try.prog 28 #[v, u, .bool cl] w fun e w' => e = .returned (.tuple #[.int .i64 0, .int .i64 k]) ∧ Below w.heap.size w w' := by
  have HC := Lib.hid (check1 hv hl hu)
  rw [he] at HC
  have hd : (k != 0) = true := by simp; exact hk
  obtain ⟨a1, c1, e1⟩ : ∃ a1 c1, u = .slice a1 fs.length c1 := by obtain ⟨a, c, h, _⟩ := hu; exact ⟨a, c, h⟩
  clear hv hu hl he hk
  generalize fs.length = k1 at *
  subst e1
  go_enter Try.func28, Try.ntmps28
  go_wp2_with fail
  refine HC.out.mono ?_
  rintro e w1 ⟨rfl, hb⟩
  have HB := Lib.hid hb
  clear hb HC
  go_wp2_with fail
  go_ret2
  exact ⟨rfl, HB.out⟩
set_option maxRecDepth 100000 in
set_option maxHeartbeats 1000000 in
theorem Farthest_err (zs fs : List Int) (v u : Value) (cl : Bool) (w : World) (hv : SlI w v zs) (hl : zs.length ≤ 1000000) (hu : SlI w u fs) (k : Int) (he : errA zs [fs] = k) (hk : k ≠ 0) :
    Calls Try.prog 29 #[v, u, .bool cl] w fun e w' => e = .returned (.tuple #[.int .i64 0, .int .i64 k]) ∧ Below w.heap.size w w' := by
  have HC := Lib.hid (check1 hv hl hu)
  rw [he] at HC
  have hd : (k != 0) = true := by simp; exact hk
  obtain ⟨a1, c1, e1⟩ : ∃ a1 c1, u = .slice a1 fs.length c1 := by obtain ⟨a, c, h, _⟩ := hu; exact ⟨a, c, h⟩
  clear hv hu hl he hk
  generalize fs.length = k1 at *
  subst e1
  go_enter Try.func29, Try.ntmps29
  go_wp2_with fail
  refine HC.out.mono ?_
  rintro e w1 ⟨rfl, hb⟩
  have HB := Lib.hid hb
  clear hb HC
  go_wp2_with fail
  go_ret2
  exact ⟨rfl, HB.out⟩
set_option maxRecDepth 100000 in
set_option maxHeartbeats 1000000 in
theorem Back_err (zs fs gs : List Int) (v u1 u2 : Value) (w : World) (hv : SlI w v zs) (hl : zs.length ≤ 1000000) (h1 : SlI w u1 fs) (h2 : SlI w u2 gs) (k : Int) (he : errA zs [fs, gs] = k) (hk : k ≠ 0) :
    Calls Try.prog 30 #[v, u1, u2] w fun e w' => e = .returned (.tuple #[.bool false, .int .i64 k]) ∧ Below w.heap.size w w' := by
  have HC := Lib.hid (check2 hv hl h1 h2)
  rw [he] at HC
  have hd : (k != 0) = true := by simp; exact hk
  obtain ⟨a1, c1, e1⟩ : ∃ a1 c1, u1 = .slice a1 fs.length c1 := by obtain ⟨a, c, h, _⟩ := h1; exact ⟨a, c, h⟩
  obtain ⟨a2, c2, e2⟩ : ∃ a2 c2, u2 = .slice a2 gs.length c2 := by obtain ⟨a, c, h, _⟩ := h2; exact ⟨a, c, h⟩
  clear hv h1 h2 hl he hk
  generalize fs.length = k1 at *
  generalize gs.length = k2 at *
  subst e1 e2
  go_enter Try.func30, Try.ntmps30
  go_wp2_with fail
  refine HC.out.mono ?_
  rintro e w1 ⟨rfl, hb⟩
  have HB := Lib.hid hb
  clear hb HC
  go_wp2_with fail
  go_ret2
  exact ⟨rfl, HB.out⟩
end Go.Proofs.Ytlamppplnojpbaa
