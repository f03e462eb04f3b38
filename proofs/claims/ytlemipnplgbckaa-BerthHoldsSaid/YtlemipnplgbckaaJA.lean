import Derived.Test.YtlemipnplgbckaaEA
import Derived.Test.YtlemipnplgbckaaMG
import Derived.Laws.AppendOwn
import Derived.ChangeKeysEq
import Derived.Maps.RangeWalk
import Derived.Maps.OwnIn
import Derived.Maps.AppendAt
import Derived.RangeFuncNested
import Derived.RangeFuncBound
import Derived.RangeFuncCalls
import Derived.RangeFuncLeaves
import Derived.Shelf.Abstract
import Derived.Shelf.RegionOpen
import Derived.WalkKit
import Derived.WalkMore
import Derived.OwnWalkIn
import Derived.TacticsInMore
import Derived.LoopNIn
import Derived.LoopIn
import Derived.WalkSpells
import Derived.WalkLawsBesides
import Derived.BigQuiet
import Derived.Deep.QuietTactic
import Derived.Lib.Hide
import Derived.Deep.RegionHeld3
import Derived.StillTailTactics
import Derived.Deep.LoopGhost
import Derived.Maps.OwnSet
import Derived.Lib.IndexAny
import Derived.Sort.QuietThIn
import Derived.Sort.QuietTacIn
import Derived.Sort.BigQuietIn
import Derived.Laws.OwnMore
import Derived.DeepKeys4
import Derived.Maps.Views
import Derived.Maps.OwnOps
import Derived.Deep.DeepCutAuto
import Derived.Shelf.Bits.Mul64
import Derived.Shelf.LaysM
namespace Go.Proofs.Ytlemipnplgbckaa
open Go.RowKit Go.Shelf
attribute [local go_sem] Oper.semAt_some
/-- the first k numbers are indices, rising -/
def idT (n : Nat) (zs : List Int) (k : Nat) : Bool := decide (0 ≤ zs.getD k 0) && (decide (zs.getD k 0 < n) && (decide (k = 0) || decide (zs.getD (k - 1) 0 < zs.getD k 0)))
def idK (n : Nat) (zs : List Int) (k : Nat) : Bool := (List.range k).all (idT n zs)
def idxOk (n : Nat) (zs : List Int) : Bool := idK n zs zs.length
theorem idK_step (n : Nat) (zs : List Int) (k : Nat) : idK n zs (k + 1) = (idK n zs k && idT n zs k) := by
  unfold idK; rw [List.range_succ, List.all_append]; simp
theorem idK_bad {n : Nat} {zs : List Int} {k : Nat} (hk : k < zs.length) (h : idT n zs k = false) : idxOk n zs = false := by
  unfold idxOk idK
  rw [← Bool.not_eq_true, List.all_eq_true]
  intro h2
  have := h2 k (List.mem_range.2 hk)
  rw [h] at this; cases this
theorem int_cell {w W : World} {b o : Nat} {zs : List Int} (h : IntsAt w b o zs) (hb : Below w.heap.size w W) (hl : b < w.heap.size) {k : Nat} (hk : k < zs.length) : W.cell? ⟨b, o + k, none⟩ = some (.int .i64 (zs.getD k 0)) := by
  have := h.at_ k hk
  rw [getD_lt hk]
  exact below_at hb hl this
set_option maxRecDepth 100000 in
set_option maxHeartbeats 1000000 in
theorem Indices_any (n : Nat) (zs : List Int) (v : Value) (w : World) (hv : SlI w v zs) (hl : zs.length ≤ 1000) (hn : n ≤ 1000) :
    Calls Try.prog 79 #[.int .i64 (n : Int), v] w fun e w' => e = .returned (.bool (idxOk n zs)) ∧ Below w.heap.size w w' := by
  obtain ⟨a, c, rfl, hc, hs⟩ := hv
  have HS := Lib.hid hs
  have HH := Lib.hid (show idxOk n zs = idK n zs zs.length from rfl)
  have HBAD := Lib.hid (fun k (hk : k < zs.length) h => idK_bad (n := n) hk h)
  obtain ⟨m, hm⟩ : ∃ m, zs.length = m := ⟨_, rfl⟩
  have HM := Lib.hid hm
  rw [hm] at hl hc HBAD HH ⊢
  clear hs hm
  generalize idxOk n zs = H at *
  go_enter Try.func79, Try.ntmps79
  go_wp2_with fail
  go_loopw [5] (fun iv wr => ∃ k : Nat, k ≤ m ∧ iv = .int .i64 (k : Int) ∧ Hid (idK n zs k = true ∧ Below w.heap.size w wr)) (fun iv _ => (m - intOf iv).toNat)
  case atStart => exact ⟨0, by omega, rfl, Lib.hid ⟨rfl, Below.refl _ _⟩⟩
  case round =>
    obtain ⟨k, hk, rfl, HB⟩ := hrel
    have kw : IntKind.i64.wrap ((k : Int) + 1) = ((k + 1 : Nat) : Int) := by rw [i64_of _ (by omega) (by omega)]; omega
    by_cases hlt : k < m
    · have hd : decide ((k : Int) < (m : Int)) = true := decide_eq_true (by omega)
      have hdn : decide (k < m) = true := decide_eq_true hlt
      obtain ⟨b, o, rfl, hbl, hz⟩ : ∃ b o, a = some ⟨b, o, none⟩ ∧ b < w.heap.size ∧ IntsAt w b o zs := HS.out.resolve_left (fun e => by have := HM.out; rw [e] at this; simp at this; omega)
      have hbl2 : b < wr.heap.size := Nat.lt_of_lt_of_le hbl HB.out.2.size
      have k0 := Kl.cell hbl2 (int_cell hz HB.out.2 hbl (show k < zs.length by rw [HM.out]; exact hlt))
      have HK1 := Lib.hid (fun h : k - 1 < m => Kl.cell hbl2 (int_cell hz HB.out.2 hbl (show k - 1 < zs.length by rw [HM.out]; exact h)))
      have HT := Lib.hid (idK_step n zs k)
      have HTT := Lib.hid (show idT n zs k = (decide (0 ≤ zs.getD k 0) && (decide (zs.getD k 0 < n) && (decide (k = 0) || decide (zs.getD (k - 1) 0 < zs.getD k 0)))) from rfl)
      have HF := Lib.hid (HBAD.out k hlt)
      have hk1 : (k : Int) < (m : Int) := by omega
      clear hz hbl hbl2
      generalize idT n zs k = T at *
      generalize zs.getD k 0 = z at *
      generalize hz' : zs.getD (k - 1) 0 = z' at *
      clear hz'
      by_cases c1 : z < 0
      · have e1 : decide (z < 0) = true := decide_eq_true c1
        have hT := Lib.hid (HF.out (by rw [HTT.out, decide_eq_false (show ¬ 0 ≤ z by omega)]; rfl))
        clear c1 HK1 HTT
        go_wp2_with fail
        refine wp_region_below (by kernel_rfl) (by kernel_rfl) ?_
        repeat (go_big_quiet_step (fail))
        refine wpQuiet_nil ?_
        rintro _ ⟨wq, rfl⟩
        have BQ := Lib.hid wq.h
        generalize wq.W = w2 at *
        go_wp2_with fail
        go_ret
        exact ⟨ret_bool hT.out.symm, Below.andThen HB.out.2 BQ.out (Nat.le_refl _)⟩
      · have e1 : decide (z < 0) = false := decide_eq_false c1
        by_cases c2 : z ≥ n
        · have e2 : decide (z ≥ n) = true := decide_eq_true c2
          have e2' : decide ((n : Int) ≤ z) = true := decide_eq_true c2
          have hT := Lib.hid (HF.out (by rw [HTT.out, decide_eq_false (show ¬ z < n by omega)]; simp))
          clear c1 c2 HK1 HTT
          go_wp2_with fail
          refine wp_region_below (by kernel_rfl) (by kernel_rfl) ?_
          repeat (go_big_quiet_step (fail))
          refine wpQuiet_nil ?_
          rintro _ ⟨wq, rfl⟩
          have BQ := Lib.hid wq.h
          generalize wq.W = w2 at *
          go_wp2_with fail
          go_ret
          exact ⟨ret_bool hT.out.symm, Below.andThen HB.out.2 BQ.out (Nat.le_refl _)⟩
        · have e2 : decide (z ≥ n) = false := decide_eq_false c2
          have e2' : decide ((n : Int) ≤ z) = false := decide_eq_false c2
          by_cases c3 : k = 0
          · have e3 : decide ((k : Int) > 0) = false := decide_eq_false (by omega)
            have e3' : decide (0 < (k : Int)) = false := decide_eq_false (by omega)
            have e3n : decide (0 < k) = false := decide_eq_false (by omega)
            have hT := Lib.hid (show idK n zs (k + 1) = true by rw [HT.out, HB.out.1, HTT.out, decide_eq_true (show 0 ≤ z by omega), decide_eq_true (show z < n by omega), decide_eq_true c3]; rfl)
            clear c1 c2 c3 HK1 HTT
            go_wp2_with fail
            refine wp_region_below (by kernel_rfl) (by kernel_rfl) ?_
            repeat (go_big_quiet_step (fail))
            refine wpQuiet_nil ?_
            rintro _ ⟨wq, rfl⟩
            have BQ := Lib.hid wq.h
            generalize wq.W = w2 at *
            go_wp2_with fail
            exact ⟨⟨k + 1, by omega, rfl, Lib.hid ⟨hT.out, Below.andThen HB.out.2 BQ.out (Nat.le_refl _)⟩⟩, by simp [intOf]; omega⟩
          · have e3 : decide ((k : Int) > 0) = true := decide_eq_true (by omega)
            have e3' : decide (0 < (k : Int)) = true := decide_eq_true (by omega)
            have e3n : decide (0 < k) = true := decide_eq_true (by omega)
            have k1 := HK1.out (by omega)
            have hkd : (decide (k = 0)) = false := decide_eq_false c3
            have HKD := Lib.hid hkd
            obtain ⟨j, hj⟩ : ∃ j, k - 1 = j := ⟨_, rfl⟩
            rw [hj] at k1
            have jw : IntKind.i64.wrap ((k : Int) - 1) = (j : Int) := by rw [i64_of _ (by omega) (by omega)]; omega
            have jl : (j : Int) < (m : Int) := by omega
            clear hkd
            by_cases c4 : z' ≥ z
            · have e4 : decide (z' ≥ z) = true := decide_eq_true c4
              have e4' : decide (z ≤ z') = true := decide_eq_true c4
              have hT := Lib.hid (HF.out (by rw [HTT.out, HKD.out, decide_eq_false (show ¬ z' < z by omega)]; simp))
              clear c1 c2 c3 c4 HK1 HTT hj
              go_wp2_with fail
              refine wp_region_below (by kernel_rfl) (by kernel_rfl) ?_
              repeat (go_big_quiet_step (fail))
              refine wpQuiet_nil ?_
              rintro _ ⟨wq, rfl⟩
              have BQ := Lib.hid wq.h
              generalize wq.W = w2 at *
              go_wp2_with fail
              go_ret
              exact ⟨ret_bool hT.out.symm, Below.andThen HB.out.2 BQ.out (Nat.le_refl _)⟩
            · have e4 : decide (z' ≥ z) = false := decide_eq_false c4
              have e4' : decide (z ≤ z') = false := decide_eq_false c4
              have hT := Lib.hid (show idK n zs (k + 1) = true by rw [HT.out, HB.out.1, HTT.out, decide_eq_true (show 0 ≤ z by omega), decide_eq_true (show z < n by omega), decide_eq_true (show z' < z by omega)]; simp)
              clear c1 c2 c3 c4 HK1 HTT hj
              go_wp2_with fail
              refine wp_region_below (by kernel_rfl) (by kernel_rfl) ?_
              repeat (go_big_quiet_step (fail))
              refine wpQuiet_nil ?_
              rintro _ ⟨wq, rfl⟩
              have BQ := Lib.hid wq.h
              generalize wq.W = w2 at *
              go_wp2_with fail
              exact ⟨⟨k + 1, by omega, rfl, Lib.hid ⟨hT.out, Below.andThen HB.out.2 BQ.out (Nat.le_refl _)⟩⟩, by simp [intOf]; omega⟩
    · have hd : decide ((k : Int) < (m : Int)) = false := decide_eq_false (by omega)
      have hdn : decide (k < m) = false := decide_eq_false hlt
      obtain rfl : k = m := by omega
      have hT := Lib.hid (HH.out.trans HB.out.1)
      go_wp2_with fail
      go_ret
      exact ⟨ret_bool hT.out.symm, HB.out.2⟩
end Go.Proofs.Ytlemipnplgbckaa
