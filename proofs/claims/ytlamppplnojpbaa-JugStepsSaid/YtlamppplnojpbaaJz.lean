import Derived.Test.YtlamppplnojpbaaJy
import Derived.Laws.AppendOwn
import Derived.ChangeKeysEq
import Derived.Maps.OwnIn
import Derived.Maps.AppendAt
import Derived.RangeFuncNested
import Derived.RangeFuncBound
import Derived.RangeFuncCalls
import Derived.RangeFuncLeaves
import Derived.Shelf.Abstract
import Derived.Shelf.RegionOpen
import Derived.WalkKit
import Derived.WalkMore
import Derived.OwnWalkIn
import Derived.TacticsInMore
import Derived.LoopNIn
import Derived.LoopIn
import Derived.WalkSpells
import Derived.WalkLawsBesides
import Derived.BigQuiet
import Derived.Deep.QuietTactic
import Derived.Lib.Hide
import Derived.Deep.RegionHeld3
import Derived.StillTailTactics
import Derived.Deep.LoopGhost
import Derived.Maps.OwnSet
import Derived.Lib.IndexAny
import Derived.Sort.QuietThIn
import Derived.Sort.QuietTacIn
import Derived.Sort.BigQuietIn
namespace Go.Proofs.Ytlamppplnojpbaa
open Go.RowKit Go.Shelf
attribute [local go_sem] Oper.semAt_some
def errM (zs : List Int) (a : Int) : Int := if jugsB zs = true then (if 0 ≤ a ∧ a ≤ 12 then 0 else 1) else 20
set_option maxRecDepth 100000 in
set_option maxHeartbeats 400000 in
theorem checkAmount_any (zs : List Int) (v : Value) (a : Int) (w : World) (hv : SlI w v zs) (hl : zs.length ≤ 1000000) :
    Calls Try.prog 47 #[v, .int .i64 a] w fun e w' => e = .returned (.int .i64 (errM zs a)) ∧ Below w.heap.size w w' := by
  have HC := Lib.hid (check_any zs v w hv hl)
  clear hv hl
  by_cases hj : jugsB zs = true
  · have ej : errJ zs = 0 := by unfold errJ; rw [if_pos hj]
    rw [ej] at HC
    by_cases h0 : a < 0
    · have fin : errM zs a = 1 := by unfold errM; rw [if_pos hj, if_neg (by omega)]
      rw [fin]
      have hd : decide (a < 0) = true := decide_eq_true h0
      clear fin hj ej
      go_enter Try.func47, Try.ntmps47
      go_wp2_with fail
      refine HC.out.mono ?_
      rintro e w1 ⟨rfl, hb⟩
      have HB := Lib.hid hb
      clear hb HC
      go_wp2_with fail
      go_ret
      exact ⟨rfl, HB.out⟩
    · by_cases h12 : 12 < a
      · have fin : errM zs a = 1 := by unfold errM; rw [if_pos hj, if_neg (by omega)]
        rw [fin]
        have hd : decide (a < 0) = false := decide_eq_false h0
        have hd2 : decide (a > 12) = true := decide_eq_true h12
        clear fin hj ej
        go_enter Try.func47, Try.ntmps47
        go_wp2_with fail
        refine HC.out.mono ?_
        rintro e w1 ⟨rfl, hb⟩
        have HB := Lib.hid hb
        clear hb HC
        go_wp2_with fail
        go_ret
        exact ⟨rfl, HB.out⟩
      · have fin : errM zs a = 0 := by unfold errM; rw [if_pos hj, if_pos (by omega)]
        rw [fin]
        have hd : decide (a < 0) = false := decide_eq_false h0
        have hd2 : decide (a > 12) = false := decide_eq_false h12
        clear fin hj ej
        go_enter Try.func47, Try.ntmps47
        go_wp2_with fail
        refine HC.out.mono ?_
        rintro e w1 ⟨rfl, hb⟩
        have HB := Lib.hid hb
        clear hb HC
        go_wp2_with fail
        go_ret
        exact ⟨rfl, HB.out⟩
  · have ej : errJ zs = 20 := by unfold errJ; rw [if_neg hj]
    have fin : errM zs a = 20 := by unfold errM; rw [if_neg hj]
    rw [ej] at HC
    rw [fin]
    clear fin hj ej
    go_enter Try.func47, Try.ntmps47
    go_wp2_with fail
    refine HC.out.mono ?_
    rintro e w1 ⟨rfl, hb⟩
    have HB := Lib.hid hb
    clear hb HC
    go_wp2_with fail
    go_ret
    exact ⟨rfl, HB.out⟩
set_option maxRecDepth 100000 in
set_option maxHeartbeats 400000 in
theorem Measure_err (zs : List Int) (v : Value) (a : Int) (w : World) (hv : SlI w v zs) (hl : zs.length ≤ 1000000) (k : Int) (he : errM zs a = k) (hk : k ≠ 0) :
    Calls Try.prog 19 #[v, .int .i64 a] w fun e w' => e = .returned (.tuple #[.slice none 0 0, .bool false, .int .i64 k]) ∧ Below w.heap.size w w' := by
  have HC := Lib.hid (checkAmount_any zs v a w hv hl)
  rw [he] at HC
  have hd : (k != 0) = true := by simp; exact hk
  clear hv hl he
  go_enter Try.func19, Try.ntmps19
  go_wp2_with fail
  refine HC.out.mono ?_
  rintro e w1 ⟨rfl, hb⟩
  have HB := Lib.hid hb
  clear hb HC
  go_wp2_with fail
  refine bodyPost_ret (v := .tuple #[.slice none 0 0, .bool false, .int .i64 k]) (by simp [results, Try.results19, go_sem]) rfl ?_
  exact ⟨rfl, HB.out⟩
set_option maxRecDepth 100000 in
set_option maxHeartbeats 400000 in
theorem Measure_ok (zs : List Int) (v : Value) (a : Int) (w : World) (hv : SlI w v zs) (hl : zs.length ≤ 1000000) (he : errM zs a = 0) (hj : jugsB zs = true) (res : Sn × Option (List Int)) (hres : srch (padF zs) (glA zs.length a) (stepsL (-1) (zs.length + 1)) 28562 [0, 0, 0, 0] = some res) :
    Calls Try.prog 19 #[v, .int .i64 a] w fun e w' => ∃ s, e = .returned (.tuple #[s, .bool res.2.isSome, .int .i64 0]) ∧ OwnP w' w.heap.size s (wayF res) ∧ Below w.heap.size w w' := by
  have HC := Lib.hid (checkAmount_any zs v a w hv hl)
  rw [he] at HC
  have HM := Lib.hid (fun (w1 : World) (hb : Below w.heap.size w w1) => measure_any zs v a w1 (hv.grow hb) hj res hres)
  generalize res.2.isSome = ok at *
  generalize wayF res = way at *
  clear hv hl he hj hres
  go_enter Try.func19, Try.ntmps19
  go_wp2_with fail
  refine HC.out.mono ?_
  rintro e w1 ⟨rfl, hb⟩
  have HB := Lib.hid hb
  clear hb HC
  go_wp2_with fail
  refine (HM.out w1 HB.out).mono ?_
  rintro e w2 ⟨x, rfl, ⟨s, rfl, ho⟩, hb2⟩
  have HO := Lib.hid ho
  have HB2 := Lib.hid hb2
  clear ho hb2 HM
  go_wp2_with fail
  refine bodyPost_ret (v := .tuple #[s, .bool ok, .int .i64 0]) (by simp [results, Try.results19, go_sem]) rfl ?_
  exact ⟨s, rfl, owns_mono HO.out HB.out.size, Below.andThen HB.out HB2.out (Nat.le_refl _)⟩
set_option maxRecDepth 100000 in
set_option maxHeartbeats 400000 in
theorem Fewest_err (zs : List Int) (v : Value) (a : Int) (w : World) (hv : SlI w v zs) (hl : zs.length ≤ 1000000) (k : Int) (he : errM zs a = k) (hk : k ≠ 0) :
    Calls Try.prog 21 #[v, .int .i64 a] w fun e w' => e = .returned (.tuple #[.int .i64 0, .bool false, .int .i64 k]) ∧ Below w.heap.size w w' := by
  have HC := Lib.hid (checkAmount_any zs v a w hv hl)
  rw [he] at HC
  have hd : (k != 0) = true := by simp; exact hk
  clear hv hl he
  go_enter Try.func21, Try.ntmps21
  go_wp2_with fail
  refine HC.out.mono ?_
  rintro e w1 ⟨rfl, hb⟩
  have HB := Lib.hid hb
  clear hb HC
  go_wp2_with fail
  refine bodyPost_ret (v := .tuple #[.int .i64 0, .bool false, .int .i64 k]) (by simp [results, Try.results21, go_sem]) rfl ?_
  exact ⟨rfl, HB.out⟩
set_option maxRecDepth 100000 in
set_option maxHeartbeats 400000 in
theorem Fewest_ok (zs : List Int) (v : Value) (a : Int) (w : World) (hv : SlI w v zs) (hl : zs.length ≤ 1000000) (he : errM zs a = 0) (hj : jugsB zs = true) (res : Sn × Option (List Int)) (hres : srch (padF zs) (glA zs.length a) (stepsL (-1) (zs.length + 1)) 28562 [0, 0, 0, 0] = some res) :
    Calls Try.prog 21 #[v, .int .i64 a] w fun e w' => e = .returned (.tuple #[.int .i64 ((wayF res).length : Int), .bool res.2.isSome, .int .i64 0]) ∧ Below w.heap.size w w' := by
  have HC := Lib.hid (checkAmount_any zs v a w hv hl)
  rw [he] at HC
  have HM := Lib.hid (fun (w1 : World) (hb : Below w.heap.size w w1) => measure_any zs v a w1 (hv.grow hb) hj res hres)
  generalize res.2.isSome = ok at *
  generalize wayF res = way at *
  clear hv hl he hj hres
  go_enter Try.func21, Try.ntmps21
  go_wp2_with fail
  refine HC.out.mono ?_
  rintro e w1 ⟨rfl, hb⟩
  have HB := Lib.hid hb
  clear hb HC
  go_wp2_with fail
  refine (HM.out w1 HB.out).mono ?_
  rintro e w2 ⟨x, rfl, ⟨s, rfl, ho⟩, hb2⟩
  obtain ⟨ad, c, rfl, _⟩ := OwnP.open ho
  have HB2 := Lib.hid hb2
  clear ho hb2 HM
  go_wp2_with fail
  refine bodyPost_ret (v := .tuple #[.int .i64 (way.length : Int), .bool ok, .int .i64 0]) (by simp [results, Try.results21, go_sem]) rfl ?_
  exact ⟨rfl, Below.andThen HB.out HB2.out (Nat.le_refl _)⟩
end Go.Proofs.Ytlamppplnojpbaa
