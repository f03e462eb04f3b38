import Derived.Test.YtlamppplnojpbaaKm
import Derived.Laws.AppendOwn
import Derived.ChangeKeysEq
import Derived.Maps.RangeWalk
import Derived.Laws.OwnMore
import Derived.Maps.OwnIn
import Derived.Maps.AppendAt
import Derived.RangeFuncNested
import Derived.RangeFuncBound
import Derived.RangeFuncCalls
import Derived.RangeFuncLeaves
import Derived.Shelf.Abstract
import Derived.Shelf.RegionOpen
import Derived.WalkKit
import Derived.WalkMore
import Derived.OwnWalkIn
import Derived.TacticsInMore
import Derived.LoopNIn
import Derived.LoopIn
import Derived.WalkSpells
import Derived.WalkLawsBesides
import Derived.BigQuiet
import Derived.Deep.QuietTactic
import Derived.Lib.Hide
import Derived.Deep.RegionHeld3
import Derived.StillTailTactics
import Derived.Deep.LoopGhost
import Derived.Maps.OwnSet
import Derived.Lib.IndexAny
import Derived.Sort.QuietThIn
import Derived.Sort.QuietTacIn
import Derived.Sort.BigQuietIn
namespace Go.Proofs.Ytlamppplnojpbaa
open Go.RowKit Go.Shelf
attribute [local go_sem] Oper.semAt_some
set_option maxRecDepth 100000 in
set_option maxHeartbeats 1000000 in
/-- one jug is poured into another one -/
theorem rStep_pour (ss fs : List Int) (v u : Value) (a b : Nat) (w : World) (hv : SlI w v ss) (hu : SlI w u fs) (n : Nat) (hsl : ss.length = n) (hl : fs.length = n) (ha : a < n) (hb : b < n) (hab : a ≠ b) (hn : n ≤ 1000) (hfa : 0 ≤ fs.getD a 0 ∧ fs.getD a 0 ≤ 1000) (hfb : 0 ≤ fs.getD b 0 ∧ fs.getD b 0 ≤ 1000) (hsb : 0 ≤ ss.getD b 0 ∧ ss.getD b 0 ≤ 1000) :
    Calls Try.prog 61 #[v, u, .agg #[.int .i64 (a : Int), .int .i64 (b : Int)]] w fun e w' => ∃ s, e = .returned (.tuple #[s, .bool true]) ∧ w'.ownsRow w.heap.size 3 1 s n ((afterF ss fs (a : Int) (b : Int)).map encI) ∧ Below w.heap.size w w' := by
  obtain ⟨i0, hi, hz0, hz1, hz2⟩ := info_parts info3
  obtain ⟨vb, vo, vc, rfl, hvc, hvb, hvi⟩ := sli_cells hv (fun e => by rw [e, List.length_nil] at hsl; omega)
  obtain ⟨ub, uo, uc, rfl, huc, hub, hui⟩ := sli_cells hu (fun e => by rw [e, List.length_nil] at hl; omega)
  have ba := (Below.refl w.heap.size w).alloc (Nat.le_refl _) (.cells #[.int .i64 (a : Int), .int .i64 (b : Int)] 48)
  have r := Row.new w 48 [.int .i64 (a : Int), .int .i64 (b : Int)]
  have c0 : (w.alloc (.cells #[.int .i64 (a : Int), .int .i64 (b : Int)] 48)).cell? ⟨w.heap.size, 0, none⟩ = some (.int .i64 (a : Int)) := r.cell 0
  have c1 : (w.alloc (.cells #[.int .i64 (a : Int), .int .i64 (b : Int)] 48)).cell? ⟨w.heap.size, 1, none⟩ = some (.int .i64 (b : Int)) := r.cell 1
  have BA := Lib.hid ba
  have SZ := Lib.hid (size_al w (.cells #[.int .i64 (a : Int), .int .i64 (b : Int)] 48))
  have HVI := Lib.hid hvi
  have HUI := Lib.hid hui
  have HB0 := Lib.hid (And.intro hvb hub)
  have d1 : decide ((a : Int) < -1) = false := decide_eq_false (by omega)
  have d2 : decide ((a : Int) ≥ (n : Int)) = false := decide_eq_false (by omega)
  have d3 : decide ((b : Int) < -1) = false := decide_eq_false (by omega)
  have d4 : decide ((b : Int) ≥ (n : Int)) = false := decide_eq_false (by omega)
  have d5 : ((a : Int) == (b : Int)) = false := by rw [beq_eq_false_iff_ne]; omega
  have d6 : decide ((a : Int) = (b : Int)) = false := decide_eq_false (by omega)
  have d7 : ((a : Int) == (-1 : Int)) = false := by rw [beq_eq_false_iff_ne]; omega
  have d8 : decide ((a : Int) = (-1 : Int)) = false := decide_eq_false (by omega)
  have d9 : ((b : Int) == (-1 : Int)) = false := by rw [beq_eq_false_iff_ne]; omega
  have d10 : decide ((b : Int) = (-1 : Int)) = false := decide_eq_false (by omega)
  have d11 : decide (a = b) = false := decide_eq_false hab
  have d12 : (a == b) = false := by rw [beq_eq_false_iff_ne]; exact hab
  have hfin : afterF ss fs (a : Int) (b : Int) = (fs.set a (fs.getD a 0 - min (fs.getD a 0) (ss.getD b 0 - fs.getD b 0))).set b (fs.getD b 0 + min (fs.getD a 0) (ss.getD b 0 - fs.getD b 0)) := by
    unfold afterF; rw [if_neg (by omega), if_neg (by omega), Int.toNat_natCast, Int.toNat_natCast]
  have HFIN := Lib.hid hfin
  have HCB := Lib.hid (fun (W : World) (hb' : Below w.heap.size w W) => show W.cell? ⟨vb, vo + b, none⟩ = some (.int .i64 (ss.getD b 0)) ∧ W.cell? ⟨ub, uo + a, none⟩ = some (.int .i64 (fs.getD a 0)) ∧ W.cell? ⟨ub, uo + b, none⟩ = some (.int .i64 (fs.getD b 0)) by
    rw [getD_lt (show b < ss.length by omega), getD_lt (show a < fs.length by omega), getD_lt (show b < fs.length by omega)]
    exact ⟨(hvi.below hb' hvb).at_ b (by omega), (hui.below hb' hub).at_ a (by omega), (hui.below hb' hub).at_ b (by omega)⟩)
  clear hfin hab
  generalize hza : fs.getD a 0 = fa at *
  generalize hzb : fs.getD b 0 = fb at *
  generalize ss.getD b 0 = sb at *
  have HZ := Lib.hid (And.intro hza hzb)
  clear hza hzb
  have w1' : IntKind.i64.wrap (sb - fb) = sb - fb := i64_of _ (by omega) (by omega)
  clear ba r hvi hui hvb hub
  have HSN := Lib.hid hsl
  have HFN := Lib.hid hl
  rw [hsl, hl]
  rw [hsl] at hvc
  rw [hl] at huc
  clear hl hsl
  go_enter Try.func61, Try.ntmps61
  go_wp2_with fail
  go_quiet (fail)
  have HBD := Lib.hid (below_drewN BA.out nq)
  clear c0 c1
  go_wp2_with (at_builtin; refine wpList_append_own_at _ rfl _ _ 22 rfl w.heap.size 3 i0 (.int .i64 0) 1 8 Try.underlying22 hi hz0 hz1 hz2 rfl (by decide) (.slice none 0 0) 0 [] rfl (World.ownsRow_nil _ _ _ _) ⟨ub, uo, none⟩ n uc (fs.map encI) rfl (by rw [List.length_map, HFN.out]; omega) (HUI.out.below HBD.out HB0.out.2).cells (fun x hx => by obtain ⟨y, _, rfl⟩ := List.mem_map.1 hx; simp [Value.oneCell', encI]) (by unfold maxLen; omega) (by omega) HBD.out.size ?_; intro v' w2 hown hgrow hnil hat'; have HR2 := Lib.hid (show World.ownsRow w2 w.heap.size 3 1 v' n (fs.map encI) by simpa using hown); have HB2 := Lib.hid (show Below w.heap.size w w2 from HBD.out.grown hgrow HBD.out.size (fun k e => by cases e)); obtain ⟨g7, cap7, hv7, hc7⟩ := own_slice HR2.out (by omega); subst hv7; obtain ⟨cb1, cb2, cb3⟩ := HCB.out w2 HB2.out; obtain ⟨cg, cf⟩ := own_cell HR2.out b hb; obtain ⟨cg2, cf2⟩ := own_cell HR2.out a ha; clear hown hgrow hnil hat')
  clear cg cf cg2 cf2
  rcases Int.lt_or_le (sb - fb) fa with hm | hm
  · go_quiet (fail)
    all_goals first
      | (exfalso; omega)
      | skip
    have hd2 := below_drewN HB2.out nq
    have hr2 := own_grow HR2.out (below_drewN (Below.refl w2.heap.size w2) nq)
    clear cb1 cb2 cb3
    generalize w2.drewN nq = w3 at *
    have HD2 := Lib.hid hd2
    have e1 : IntKind.i64.wrap (fa - (sb - fb)) = fa - (sb - fb) := by rw [i64_of _ (by omega) (by omega)] <;> omega
    have e2 : IntKind.i64.wrap (fb + (sb - fb)) = fb + (sb - fb) := by rw [i64_of _ (by omega) (by omega)]
    obtain ⟨ca1, ca2, ca3⟩ := HCB.out w3 hd2
    obtain ⟨cg, cf⟩ := own_cell hr2 a ha
    have hr3 := own_put hr2 a (fa - (sb - fb))
    obtain ⟨cg2, cf2⟩ := own_cell hr3 b hb
    have hd3 := hd2.grown (one_set w3 g7 a (.int .i64 (fa - (sb - fb)))) hd2.size (fun k e => by cases e; exact (hr2.lt g7 rfl).1)
    obtain ⟨cb1, cb2, cb3⟩ := HCB.out _ hd3
    have HR3 := Lib.hid (own_put hr3 b (fb + (sb - fb)))
    have HD3 := Lib.hid hd3
    have HL := Lib.hid (hr2.lt g7 rfl).1
    have HFN2 := Lib.hid (show afterF ss fs (a : Int) (b : Int) = (fs.set a (fa - (sb - fb))).set b (fb + (sb - fb)) by rw [HFIN.out]; congr 1 <;> (try congr 1) <;> omega)
    clear hr2 hr3 hd2 hd3
    go_wp2_with fail
    go_ret2
    refine ⟨_, rfl, ?_, ?_⟩
    · rw [HFN2.out]; exact HR3.out
    · exact HD3.out.grown (one_set _ g7 b (.int .i64 (fb + (sb - fb)))) HD3.out.size (fun k e => by cases e; exact HL.out)
  · go_quiet (fail)
    all_goals first
      | (exfalso; omega)
      | skip
    have hd2 := below_drewN HB2.out nq
    have hr2 := own_grow HR2.out (below_drewN (Below.refl w2.heap.size w2) nq)
    clear cb1 cb2 cb3
    generalize w2.drewN nq = w3 at *
    have HD2 := Lib.hid hd2
    have e1 : IntKind.i64.wrap (fa - fa) = 0 := by rw [i64_of _ (by omega) (by omega)] <;> omega
    have e2 : IntKind.i64.wrap (fb + fa) = fb + fa := by rw [i64_of _ (by omega) (by omega)]
    obtain ⟨ca1, ca2, ca3⟩ := HCB.out w3 hd2
    obtain ⟨cg, cf⟩ := own_cell hr2 a ha
    have hr3 := own_put hr2 a (0)
    obtain ⟨cg2, cf2⟩ := own_cell hr3 b hb
    have hd3 := hd2.grown (one_set w3 g7 a (.int .i64 (0))) hd2.size (fun k e => by cases e; exact (hr2.lt g7 rfl).1)
    obtain ⟨cb1, cb2, cb3⟩ := HCB.out _ hd3
    have HR3 := Lib.hid (own_put hr3 b (fb + fa))
    have HD3 := Lib.hid hd3
    have HL := Lib.hid (hr2.lt g7 rfl).1
    have HFN2 := Lib.hid (show afterF ss fs (a : Int) (b : Int) = (fs.set a (0)).set b (fb + fa) by rw [HFIN.out]; congr 1 <;> (try congr 1) <;> omega)
    clear hr2 hr3 hd2 hd3
    go_wp2_with fail
    go_ret2
    refine ⟨_, rfl, ?_, ?_⟩
    · rw [HFN2.out]; exact HR3.out
    · exact HD3.out.grown (one_set _ g7 b (.int .i64 (fb + fa))) HD3.out.size (fun k e => by cases e; exact HL.out)
theorem rStep_any (ss fs : List Int) (v u : Value) (a b : Int) (w : World) (hv : SlI w v ss) (hu : SlI w u fs) (hj : jugsB ss = true) (hf : fitsB ss fs = true) (ha : -1 ≤ a ∧ a < (ss.length : Int)) (hb : -1 ≤ b ∧ b < (ss.length : Int)) (hab : a ≠ b) :
    Calls Try.prog 61 #[v, u, .agg #[.int .i64 a, .int .i64 b]] w fun e w' => ∃ s, e = .returned (.tuple #[s, .bool true]) ∧ w'.ownsRow w.heap.size 3 1 s (afterF ss fs a b).length ((afterF ss fs a b).map encI) ∧ Below w.heap.size w w' := by
  unfold jugsB at hj
  simp only [Bool.and_eq_true, decide_eq_true_eq, List.all_eq_true] at hj
  unfold fitsB at hf
  simp only [Bool.and_eq_true, decide_eq_true_eq, List.all_eq_true] at hf
  have hl : (afterF ss fs a b).length = ss.length := by
    unfold afterF; split
    · rw [List.length_set]; exact hf.1
    · split
      · rw [List.length_set]; exact hf.1
      · rw [List.length_set, List.length_set]; exact hf.1
  rw [hl]
  have hbd : ∀ i, i < ss.length → 0 ≤ fs.getD i 0 ∧ fs.getD i 0 ≤ 1000 ∧ 0 ≤ ss.getD i 0 ∧ ss.getD i 0 ≤ 1000 := fun i hi => by
    have h1 := hf.2 i (List.mem_range.2 (by omega))
    have h2 := hj.2 ss[i] (List.getElem_mem hi)
    unfold sizeB at h2
    simp only [Bool.and_eq_true, decide_eq_true_eq] at h2
    rw [getD_lt hi] at h1 ⊢
    omega
  by_cases h1 : a = -1
  · subst h1
    obtain ⟨j, rfl⟩ : ∃ j : Nat, b = (j : Int) := ⟨b.toNat, by omega⟩
    exact rStep_sea ss fs v u j w hv hu ss.length rfl hf.1 (by omega) (by omega)
  · obtain ⟨i, rfl⟩ : ∃ i : Nat, a = (i : Int) := ⟨a.toNat, by omega⟩
    by_cases h2 : b = -1
    · subst h2
      exact rStep_out ss fs v u i w hv hu ss.length rfl hf.1 (by omega) (by omega)
    · obtain ⟨j, rfl⟩ : ∃ j : Nat, b = (j : Int) := ⟨b.toNat, by omega⟩
      have hi := hbd i (by omega)
      have hj' := hbd j (by omega)
      exact rStep_pour ss fs v u i j w hv hu ss.length rfl hf.1 (by omega) (by omega) (by omega) (by omega) ⟨hi.1, hi.2.1⟩ ⟨hj'.1, hj'.2.1⟩ ⟨hj'.2.2.1, hj'.2.2.2⟩
set_option maxHeartbeats 1000000 in
theorem equal_any (xs ys : List Int) (g h c d : Nat) (w : World) (hx : IntsAt w g 0 xs) (hy : IntsAt w h 0 ys) (hl : xs.length = ys.length) (h1 : xs.length ≤ 1000) :
    Calls Try.prog 62 #[.slice (some ⟨g, 0, none⟩) xs.length c, .slice (some ⟨h, 0, none⟩) ys.length d] w fun e w' => e = .returned (.bool (decide (xs = ys))) ∧ Below w.heap.size w w' := by
  have d1 : ((xs.length : Int) != (ys.length : Int)) = false := by simp; omega
  have HX := Lib.hid hx
  have HY := Lib.hid hy
  have HL := Lib.hid hl
  obtain ⟨E, hE⟩ : ∃ E, decide (xs = ys) = E := ⟨_, rfl⟩
  rw [hE]
  have HE := Lib.hid hE
  clear hx hy hl hE
  go_enter Try.func62, Try.ntmps62
  go_wp2_with fail
  go_loopw [5] (fun i wr => ∃ k : Nat, k ≤ xs.length ∧ i = .int .i64 (k : Int) ∧ Hid (∃ n, wr = w.drewN n) ∧ Hid (xs.take k = ys.take k)) (fun i _ => xs.length - (intOf i).toNat)
  case atStart => exact ⟨0, by omega, rfl, Lib.hid ⟨0, rfl⟩, Lib.hid rfl⟩
  case round =>
    obtain ⟨k, hk, rfl, HN, HK⟩ := hrel
    obtain ⟨n, hn⟩ := HN.out
    have HW := Lib.hid (show Below w.heap.size w wr by rw [hn]; exact below_drewN (Below.refl _ _) _)
    have HX1 := Lib.hid (show IntsAt wr g 0 xs by rw [hn]; exact HX.out.drewN n)
    have HY1 := Lib.hid (show IntsAt wr h 0 ys by rw [hn]; exact HY.out.drewN n)
    have HNN := Lib.hid hn
    clear hn
    by_cases hlt : k < xs.length
    · have hlt2 : k < ys.length := by have := HL.out; omega
      have hd : decide ((k : Int) < (xs.length : Int)) = true := decide_eq_true (by omega)
      have c1 := HX1.out.at_ k hlt
      have c2 := HY1.out.at_ k hlt2
      rw [Nat.zero_add] at c1 c2
      have hs1 : xs.take (k + 1) = xs.take k ++ [xs[k]] := List.take_succ_eq_append_getElem hlt
      have hs2 : ys.take (k + 1) = ys.take k ++ [ys[k]] := List.take_succ_eq_append_getElem hlt2
      have hne : xs[k] ≠ ys[k] → E = false := fun hne => by
        rw [← HE.out]; refine decide_eq_false fun e => hne ?_
        subst e; rfl
      have S1 := Lib.hid hs1
      have S2 := Lib.hid hs2
      have HNE := Lib.hid hne
      clear hs1 hs2 hne
      generalize xs[k] = a at *
      generalize ys[k] = b at *
      go_wp2_with fail
      go_quiet (fail)
      by_cases hab : a = b
      · have dd : (a != b) = false := by simp [hab]
        subst hab
        clear HNE
        go_wp2_with fail
        go_roundw
        case rel => exact ⟨k + 1, by omega, rfl, Lib.hid ⟨_, by rw [HNN.out, drewN_drewN]⟩, Lib.hid (by rw [S1.out, S2.out, HK.out])⟩
        case measure => simp [intOf]; omega
      · have dd : (a != b) = true := by simp [hab]
        have HF := Lib.hid (HNE.out hab)
        clear hab HNE
        go_wp2_with fail
        go_ret
        exact ⟨ret_bool HF.out.symm, below_drewN HW.out _⟩
    · have hd : decide ((k : Int) < (xs.length : Int)) = false := decide_eq_false (by omega)
      have hfin : E = true := by
        rw [← HE.out]; refine decide_eq_true ?_
        have := HK.out
        rw [List.take_of_length_le (by omega), List.take_of_length_le (by have := HL.out; omega)] at this
        exact this
      have HF := Lib.hid hfin
      clear hfin
      go_wp2_with fail
      go_ret
      exact ⟨ret_bool HF.out.symm, HW.out⟩
end Go.Proofs.Ytlamppplnojpbaa
