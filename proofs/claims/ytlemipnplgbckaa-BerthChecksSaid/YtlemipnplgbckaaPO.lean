import Derived.Test.YtlemipnplgbckaaPN
import Derived.Laws.AppendOwn
import Derived.ChangeKeysEq
import Derived.Maps.RangeWalk
import Derived.Maps.OwnIn
import Derived.Maps.AppendAt
import Derived.RangeFuncNested
import Derived.RangeFuncBound
import Derived.RangeFuncCalls
import Derived.RangeFuncLeaves
import Derived.Shelf.Abstract
import Derived.Shelf.RegionOpen
import Derived.WalkKit
import Derived.WalkMore
import Derived.OwnWalkIn
import Derived.TacticsInMore
import Derived.LoopNIn
import Derived.LoopIn
import Derived.WalkSpells
import Derived.WalkLawsBesides
import Derived.BigQuiet
import Derived.Deep.QuietTactic
import Derived.Lib.Hide
import Derived.Deep.RegionHeld3
import Derived.StillTailTactics
import Derived.Deep.LoopGhost
import Derived.Maps.OwnSet
import Derived.Lib.IndexAny
import Derived.Sort.QuietThIn
import Derived.Sort.QuietTacIn
import Derived.Sort.BigQuietIn
import Derived.Laws.OwnMore
import Derived.DeepKeys4
import Derived.Maps.Views
import Derived.Maps.OwnOps
import Derived.Laws.OwnMore
import Derived.Deep.DeepCutAuto
import Derived.ChangeKeysEq
namespace Go.Proofs.Ytlemipnplgbckaa
open Go.RowKit Go.Shelf
attribute [local go_sem] Oper.semAt_some
set_option maxRecDepth 100000 in
set_option maxHeartbeats 600000 in
theorem Nearest_err (ps : List Pt) (v : Value) (x y : Int) (w : World) (hv : SlP w v ps) (hl : ps.length ≤ 1000000) (k : Int) (he : errP ps = k) (hk : k ≠ 0) :
    Calls Try.prog 24 #[v, .agg #[.int .i64 x, .int .i64 y]] w fun e w' => e = .returned (.tuple #[.slice none 0 0, .int .i64 k]) ∧ Below w.heap.size w w' := by
  obtain ⟨ba, rb⟩ := box_start w 28 [.int .i64 x, .int .i64 y]
  have HC := Lib.hid (least_err ps v x y x y 66 _ (hv.grow ba) hl k he hk)
  have k0 := rb.cell 0
  have k1 := rb.cell 1
  simp only [List.getElem?_cons_zero, List.getElem?_cons_succ] at k0 k1
  have BA := Lib.hid ba
  obtain ⟨a, c, rfl, _⟩ := hv
  generalize hln : ps.length = n at *
  have HLN := Lib.hid hln
  clear ba rb hln
  go_enter Try.func24, Try.ntmps24
  go_wp2_with fail
  refine HC.out.mono ?_
  rintro e w1 ⟨rfl, hb⟩
  have BB := Lib.hid (Below.andThen BA.out hb (Nat.le_refl _))
  clear hb BA
  clear k0 k1 HC
  go_wp2_with fail
  refine bodyPost_ret (v := .tuple #[.slice none 0 0, .int .i64 k]) (by simp [results, Try.results24, go_sem]) rfl ⟨rfl, BB.out⟩
set_option maxRecDepth 100000 in
set_option maxHeartbeats 600000 in
theorem Nearest_bad (ps : List Pt) (v : Value) (x y : Int) (w : World) (hv : SlP w v ps) (he : chkP ps = true) (hp : okP (x, y) = false) :
    Calls Try.prog 24 #[v, .agg #[.int .i64 x, .int .i64 y]] w fun e w' => e = .returned (.tuple #[.slice none 0 0, .int .i64 1]) ∧ Below w.heap.size w w' := by
  obtain ⟨ba, rb⟩ := box_start w 28 [.int .i64 x, .int .i64 y]
  have HC := Lib.hid (least_bad ps v x y x y 66 _ (hv.grow ba) he hp)
  have k0 := rb.cell 0
  have k1 := rb.cell 1
  simp only [List.getElem?_cons_zero, List.getElem?_cons_succ] at k0 k1
  have BA := Lib.hid ba
  obtain ⟨a, c, rfl, _⟩ := hv
  generalize hln : ps.length = n at *
  have HLN := Lib.hid hln
  clear he hp
  clear ba rb hln
  go_enter Try.func24, Try.ntmps24
  go_wp2_with fail
  refine HC.out.mono ?_
  rintro e w1 ⟨rfl, hb⟩
  have BB := Lib.hid (Below.andThen BA.out hb (Nat.le_refl _))
  clear hb BA
  clear k0 k1 HC
  go_wp2_with fail
  refine bodyPost_ret (v := .tuple #[.slice none 0 0, .int .i64 1]) (by simp [results, Try.results24, go_sem]) rfl ⟨rfl, BB.out⟩
/-- the numbers that Nearest lists -/
def NearestL (ps : List Pt) (p : Pt) : List Nat := whL ps (fun q => decide (fd q p = lowK (fun q => fd q p) ps ps.length))
set_option maxRecDepth 100000 in
set_option maxHeartbeats 600000 in
theorem Nearest_ok (ps : List Pt) (v : Value) (x y : Int) (w : World) (hv : SlP w v ps) (he : chkP ps = true) (hp : okP (x, y) = true) :
    Calls Try.prog 24 #[v, .agg #[.int .i64 x, .int .i64 y]] w fun e w' => ∃ s, e = .returned (.tuple #[s, .int .i64 0]) ∧ w'.ownsRow w.heap.size 3 1 s (NearestL ps (x, y)).length ((NearestL ps (x, y)).map (fun n : Nat => encI (n : Int))) ∧ Below w.heap.size w w' := by
  obtain ⟨ba, rb⟩ := box_start w 28 [.int .i64 x, .int .i64 y]
  have hb2 := okP_iff.1 hp
  have hps := (chkP_iff.1 he).2.1
  have HC := Lib.hid (least_ok ps v x y x y 66 (fun q => fd q (x, y)) _ (hv.grow ba) he hp (enters_of Try.func66 (by kernel_rfl) rfl) (fun W a b hm => dist_any x y a b W hb2.1 hb2.2 (hps _ hm).1 (hps _ hm).2))
  have HSZ := Lib.hid ba.size
  have HQ := Lib.hid (show NearestL ps (x, y) = whL ps (fun q => decide (fd q (x, y) = lowK (fun q => fd q (x, y)) ps ps.length)) from rfl)
  rw [← HQ.out] at HC
  generalize NearestL ps (x, y) = Q at *
  have k0 := rb.cell 0
  have k1 := rb.cell 1
  simp only [List.getElem?_cons_zero, List.getElem?_cons_succ] at k0 k1
  have BA := Lib.hid ba
  obtain ⟨a, c, rfl, _⟩ := hv
  generalize hln : ps.length = n at *
  have HLN := Lib.hid hln
  clear he hp hb2 hps HQ
  clear ba rb hln
  go_enter Try.func24, Try.ntmps24
  go_wp2_with fail
  refine HC.out.mono ?_
  rintro e w1 ⟨s, rfl, ho, hb⟩
  have BB := Lib.hid (Below.andThen BA.out hb (Nat.le_refl _))
  have HO := Lib.hid (owns_mono ho HSZ.out)
  clear hb BA ho
  clear k0 k1 HC
  go_wp2_with fail
  refine bodyPost_ret (v := .tuple #[s, .int .i64 0]) (by simp [results, Try.results24, go_sem]) rfl ⟨s, rfl, HO.out, BB.out⟩
set_option maxRecDepth 100000 in
set_option maxHeartbeats 600000 in
theorem Farthest_err (ps : List Pt) (v : Value) (x y : Int) (w : World) (hv : SlP w v ps) (hl : ps.length ≤ 1000000) (k : Int) (he : errP ps = k) (hk : k ≠ 0) :
    Calls Try.prog 25 #[v, .agg #[.int .i64 x, .int .i64 y]] w fun e w' => e = .returned (.tuple #[.slice none 0 0, .int .i64 k]) ∧ Below w.heap.size w w' := by
  obtain ⟨ba, rb⟩ := box_start w 28 [.int .i64 x, .int .i64 y]
  have HC := Lib.hid (least_err ps v x y x y 67 _ (hv.grow ba) hl k he hk)
  have k0 := rb.cell 0
  have k1 := rb.cell 1
  simp only [List.getElem?_cons_zero, List.getElem?_cons_succ] at k0 k1
  have BA := Lib.hid ba
  obtain ⟨a, c, rfl, _⟩ := hv
  generalize hln : ps.length = n at *
  have HLN := Lib.hid hln
  clear ba rb hln
  go_enter Try.func25, Try.ntmps25
  go_wp2_with fail
  refine HC.out.mono ?_
  rintro e w1 ⟨rfl, hb⟩
  have BB := Lib.hid (Below.andThen BA.out hb (Nat.le_refl _))
  clear hb BA
  clear k0 k1 HC
  go_wp2_with fail
  refine bodyPost_ret (v := .tuple #[.slice none 0 0, .int .i64 k]) (by simp [results, Try.results25, go_sem]) rfl ⟨rfl, BB.out⟩
set_option maxRecDepth 100000 in
set_option maxHeartbeats 600000 in
theorem Farthest_bad (ps : List Pt) (v : Value) (x y : Int) (w : World) (hv : SlP w v ps) (he : chkP ps = true) (hp : okP (x, y) = false) :
    Calls Try.prog 25 #[v, .agg #[.int .i64 x, .int .i64 y]] w fun e w' => e = .returned (.tuple #[.slice none 0 0, .int .i64 1]) ∧ Below w.heap.size w w' := by
  obtain ⟨ba, rb⟩ := box_start w 28 [.int .i64 x, .int .i64 y]
  have HC := Lib.hid (least_bad ps v x y x y 67 _ (hv.grow ba) he hp)
  have k0 := rb.cell 0
  have k1 := rb.cell 1
  simp only [List.getElem?_cons_zero, List.getElem?_cons_succ] at k0 k1
  have BA := Lib.hid ba
  obtain ⟨a, c, rfl, _⟩ := hv
  generalize hln : ps.length = n at *
  have HLN := Lib.hid hln
  clear he hp
  clear ba rb hln
  go_enter Try.func25, Try.ntmps25
  go_wp2_with fail
  refine HC.out.mono ?_
  rintro e w1 ⟨rfl, hb⟩
  have BB := Lib.hid (Below.andThen BA.out hb (Nat.le_refl _))
  clear hb BA
  clear k0 k1 HC
  go_wp2_with fail
  refine bodyPost_ret (v := .tuple #[.slice none 0 0, .int .i64 1]) (by simp [results, Try.results25, go_sem]) rfl ⟨rfl, BB.out⟩
/-- the numbers that Farthest lists -/
def FarthestL (ps : List Pt) (p : Pt) : List Nat := whL ps (fun q => decide (-(fd q p) = lowK (fun q => -(fd q p)) ps ps.length))
set_option maxRecDepth 100000 in
set_option maxHeartbeats 600000 in
theorem Farthest_ok (ps : List Pt) (v : Value) (x y : Int) (w : World) (hv : SlP w v ps) (he : chkP ps = true) (hp : okP (x, y) = true) :
    Calls Try.prog 25 #[v, .agg #[.int .i64 x, .int .i64 y]] w fun e w' => ∃ s, e = .returned (.tuple #[s, .int .i64 0]) ∧ w'.ownsRow w.heap.size 3 1 s (FarthestL ps (x, y)).length ((FarthestL ps (x, y)).map (fun n : Nat => encI (n : Int))) ∧ Below w.heap.size w w' := by
  obtain ⟨ba, rb⟩ := box_start w 28 [.int .i64 x, .int .i64 y]
  have hb2 := okP_iff.1 hp
  have hps := (chkP_iff.1 he).2.1
  have HC := Lib.hid (least_ok ps v x y x y 67 (fun q => -(fd q (x, y))) _ (hv.grow ba) he hp (enters_of Try.func67 (by kernel_rfl) rfl) (fun W a b hm => near_any x y a b W hb2.1 hb2.2 (hps _ hm).1 (hps _ hm).2))
  have HSZ := Lib.hid ba.size
  have HQ := Lib.hid (show FarthestL ps (x, y) = whL ps (fun q => decide (-(fd q (x, y)) = lowK (fun q => -(fd q (x, y)) ) ps ps.length)) from rfl)
  rw [← HQ.out] at HC
  generalize FarthestL ps (x, y) = Q at *
  have k0 := rb.cell 0
  have k1 := rb.cell 1
  simp only [List.getElem?_cons_zero, List.getElem?_cons_succ] at k0 k1
  have BA := Lib.hid ba
  obtain ⟨a, c, rfl, _⟩ := hv
  generalize hln : ps.length = n at *
  have HLN := Lib.hid hln
  clear he hp hb2 hps HQ
  clear ba rb hln
  go_enter Try.func25, Try.ntmps25
  go_wp2_with fail
  refine HC.out.mono ?_
  rintro e w1 ⟨s, rfl, ho, hb⟩
  have BB := Lib.hid (Below.andThen BA.out hb (Nat.le_refl _))
  have HO := Lib.hid (owns_mono ho HSZ.out)
  clear hb BA ho
  clear k0 k1 HC
  go_wp2_with fail
  refine bodyPost_ret (v := .tuple #[s, .int .i64 0]) (by simp [results, Try.results25, go_sem]) rfl ⟨s, rfl, HO.out, BB.out⟩
end Go.Proofs.Ytlemipnplgbckaa
