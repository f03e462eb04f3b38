import Derived.Test.YtlemipnplgbckaaBE
import Derived.Laws.AppendOwn
import Derived.ChangeKeysEq
import Derived.Maps.RangeWalk
import Derived.Maps.OwnIn
import Derived.Maps.AppendAt
import Derived.RangeFuncNested
import Derived.RangeFuncBound
import Derived.RangeFuncCalls
import Derived.RangeFuncLeaves
import Derived.Shelf.Abstract
import Derived.Shelf.RegionOpen
import Derived.WalkKit
import Derived.WalkMore
import Derived.OwnWalkIn
import Derived.TacticsInMore
import Derived.LoopNIn
import Derived.LoopIn
import Derived.WalkSpells
import Derived.WalkLawsBesides
import Derived.BigQuiet
import Derived.Deep.QuietTactic
import Derived.Lib.Hide
import Derived.Deep.RegionHeld3
import Derived.StillTailTactics
import Derived.Deep.LoopGhost
import Derived.Maps.OwnSet
import Derived.Lib.IndexAny
import Derived.Sort.QuietThIn
import Derived.Sort.QuietTacIn
import Derived.Sort.BigQuietIn
import Derived.Laws.OwnMore
import Derived.DeepKeys4
import Derived.Maps.Views
import Derived.Maps.OwnOps
import Derived.Laws.OwnMore
import Derived.Deep.DeepCutAuto
import Derived.ChangeKeysEq
namespace Go.Proofs.Ytlemipnplgbckaa
open Go.RowKit Go.Shelf
attribute [local go_sem] Oper.semAt_some
set_option maxRecDepth 100000 in
set_option maxHeartbeats 600000 in
theorem where_any (X Y D R p q : Int) (w : World) (h1 : Bd 1000000 X) (h2 : Bd 1000000 Y) (h3 : Bd 1000000 D) (h4 : Bd 20 p) (h5 : Bd 20 q) :
    Calls Try.prog 63 #[.agg #[.int .i64 X, .int .i64 Y, .int .i64 D, .int .i64 R], .agg #[.int .i64 p, .int .i64 q]] w fun e w' => e = .returned (.int .i64 (cmpI (apF X Y D (p, q)) R)) ∧ Below w.heap.size w w' := by
  have HAP := Lib.hid (fun (W : World) => apart_any X Y D R p q W h1 h2 h3 h4 h5)
  have HCM := Lib.hid (fun (W : World) => show Calls Try.prog 94 #[.int .i64 (apF X Y D (p, q)), .int .i64 R] W fun e w' => e = .returned (.int .i64 (cmpI (apF X Y D (p, q)) R)) ∧ Below W.heap.size W w' from (cmp_any (apF X Y D (p, q)) R W).mono fun e w' ⟨e1, e2⟩ => ⟨e1, by rw [e2]; exact Below.refl _ _⟩)
  generalize cmpI (apF X Y D (p, q)) R = C at *
  generalize apF X Y D (p, q) = A at *
  clear h1 h2 h3 h4 h5
  have rA : Row ((w.alloc (.cells #[.int .i64 X, .int .i64 Y, .int .i64 D, .int .i64 R] 30)).alloc (.cells #[.int .i64 p, .int .i64 q] 28)) w.heap.size 30 [.int .i64 X, .int .i64 Y, .int .i64 D, .int .i64 R] := (Row.new w 30 [.int .i64 X, .int .i64 Y, .int .i64 D, .int .i64 R]).below (Below.al (Below.refl _ _) (Nat.le_refl _) _) (by simp)
  have rB : Row ((w.alloc (.cells #[.int .i64 X, .int .i64 Y, .int .i64 D, .int .i64 R] 30)).alloc (.cells #[.int .i64 p, .int .i64 q] 28)) (w.heap.size + 1) 28 [.int .i64 p, .int .i64 q] := by
    have := Row.new (w.alloc (.cells #[.int .i64 X, .int .i64 Y, .int .i64 D, .int .i64 R] 30)) 28 [.int .i64 p, .int .i64 q]
    simpa using this
  have ba : Below w.heap.size w ((w.alloc (.cells #[.int .i64 X, .int .i64 Y, .int .i64 D, .int .i64 R] 30)).alloc (.cells #[.int .i64 p, .int .i64 q] 28)) := ((Below.refl w.heap.size w).alloc (Nat.le_refl _) _).alloc (by simp) _
  obtain ⟨V, hV⟩ : ∃ V, V = (w.alloc (.cells #[.int .i64 X, .int .i64 Y, .int .i64 D, .int .i64 R] 30)).alloc (.cells #[.int .i64 p, .int .i64 q] 28) := ⟨_, rfl⟩
  rw [← hV] at rA rB ba
  have RA := Lib.hid rA
  have RB := Lib.hid rB
  have BA := Lib.hid ba
  have HV := Lib.hid hV
  clear rA rB ba hV
  go_enter Try.func63, Try.ntmps63
  go_wp2_with fail
  rw [← HV.out]
  clear HV
  refine wp_region_box (by kernel_rfl) (by kernel_rfl) [5, 6, 7, 8, 9, 10, 4] [(fun v => v = .agg #[.int .i64 X, .int .i64 Y, .int .i64 D, .int .i64 R]), (fun v => v = .agg #[.int .i64 p, .int .i64 q]), (fun v => v = .int .i64 (A)), (fun v => v = .pointer (some ⟨w.heap.size, 3, none⟩)), (fun v => v = .int .i64 (R)), (fun v => v = .int .i64 (C)), (fun v => v = .int .i64 (C))] [none, none, none, none, none, none, none] [none, none, none, none, none, none, none] 7 rfl (by kernel_rfl) ?tr ⟨[undef, undef, undef, undef, undef, undef, .int .i64 0], by simp only [putAll, Act.put, List.setIfInBounds_toArray, List.set_cons_succ, List.set_cons_zero], rfl⟩ ?steps ?fin
  case tr =>
    rintro i v h
    rcases i with _ | _ | _ | _ | _ | _ | _ | i
    all_goals first | trivial | (exfalso; rcases h with h | h <;> simp at h)
  case steps =>
    simp only [boxSteps, Nat.reduceAdd, Nat.zero_add, List.getD_cons_succ, List.getD_cons_zero]
    refine ⟨?_, ?_, ?_, ?_, ?_, ?_, ?_, trivial⟩
    · rintro vs W K hc hvl hw hK
      obtain ⟨x0, x1, x2, x3, x4, x5, x6, rfl⟩ := len7 hvl
      have HK := Lib.hid hK
      have HC := Lib.hid hc
      have HW := Lib.hid hw
      clear hK hc hw hvl
      simp only [putAll, Act.put, List.setIfInBounds_toArray, List.set_cons_succ, List.set_cons_zero]
      have rr := RA.out.below HC.out RA.out.lt
      have k0 := rr.cell 0
      have k1 := rr.cell 1
      have k2 := rr.cell 2
      have k3 := rr.cell 3
      simp only [List.getElem?_cons_zero, List.getElem?_cons_succ] at k0 k1 k2 k3
      clear rr
      clear HW
      go_wp2_with fail
      have fin := HK.out (.agg #[.int .i64 X, .int .i64 Y, .int .i64 D, .int .i64 R]) W (Below.refl _ _) rfl
      simp only [putAll, Act.put, List.setIfInBounds_toArray, List.set_cons_succ, List.set_cons_zero] at fin
      exact fin
    · rintro vs W K hc hvl hw hK
      obtain ⟨x0, x1, x2, x3, x4, x5, x6, rfl⟩ := len7 hvl
      have HK := Lib.hid hK
      have HC := Lib.hid hc
      have HW := Lib.hid hw
      clear hK hc hw hvl
      simp only [putAll, Act.put, List.setIfInBounds_toArray, List.set_cons_succ, List.set_cons_zero]
      have rr := RB.out.below HC.out RB.out.lt
      have k0 := rr.cell 0
      have k1 := rr.cell 1
      simp only [List.getElem?_cons_zero, List.getElem?_cons_succ] at k0 k1
      clear rr
      clear HW
      go_wp2_with fail
      have fin := HK.out (.agg #[.int .i64 p, .int .i64 q]) W (Below.refl _ _) rfl
      simp only [putAll, Act.put, List.setIfInBounds_toArray, List.set_cons_succ, List.set_cons_zero] at fin
      exact fin
    · rintro vs W K hc hvl hw hK
      obtain ⟨x0, x1, x2, x3, x4, x5, x6, rfl⟩ := len7 hvl
      have HK := Lib.hid hK
      have HC := Lib.hid hc
      have HW := Lib.hid hw
      clear hK hc hw hvl
      obtain rfl : x0 = .agg #[.int .i64 X, .int .i64 Y, .int .i64 D, .int .i64 R] := box_get (HW.out ⟨0, .data⟩ (by simp) rfl) rfl
      obtain rfl : x1 = .agg #[.int .i64 p, .int .i64 q] := box_get (HW.out ⟨1, .data⟩ (by simp) rfl) rfl
      simp only [putAll, Act.put, List.setIfInBounds_toArray, List.set_cons_succ, List.set_cons_zero]
      clear HW
      go_wp2_with fail
      refine (HAP.out W).mono ?_
      rintro e W' ⟨rfl, hb'⟩
      have HB' := Lib.hid hb'
      clear hb'
      go_wp2_with fail
      have fin := HK.out (.int .i64 (A)) W' HB'.out rfl
      simp only [putAll, Act.put, List.setIfInBounds_toArray, List.set_cons_succ, List.set_cons_zero] at fin
      exact fin
    · rintro vs W K hc hvl hw hK
      obtain ⟨x0, x1, x2, x3, x4, x5, x6, rfl⟩ := len7 hvl
      have HK := Lib.hid hK
      have HC := Lib.hid hc
      have HW := Lib.hid hw
      clear hK hc hw hvl
      simp only [putAll, Act.put, List.setIfInBounds_toArray, List.set_cons_succ, List.set_cons_zero]
      clear HW
      go_wp2_with fail
      have fin := HK.out (.pointer (some ⟨w.heap.size, 3, none⟩)) W (Below.refl _ _) rfl
      simp only [putAll, Act.put, List.setIfInBounds_toArray, List.set_cons_succ, List.set_cons_zero] at fin
      exact fin
    · rintro vs W K hc hvl hw hK
      obtain ⟨x0, x1, x2, x3, x4, x5, x6, rfl⟩ := len7 hvl
      have HK := Lib.hid hK
      have HC := Lib.hid hc
      have HW := Lib.hid hw
      clear hK hc hw hvl
      obtain rfl : x3 = .pointer (some ⟨w.heap.size, 3, none⟩) := box_get (HW.out ⟨3, .data⟩ (by simp) rfl) rfl
      simp only [putAll, Act.put, List.setIfInBounds_toArray, List.set_cons_succ, List.set_cons_zero]
      have rr := RA.out.below HC.out RA.out.lt
      have k0 := rr.cell 0
      have k1 := rr.cell 1
      have k2 := rr.cell 2
      have k3 := rr.cell 3
      simp only [List.getElem?_cons_zero, List.getElem?_cons_succ] at k0 k1 k2 k3
      clear rr
      clear HW
      go_wp2_with fail
      have fin := HK.out (.int .i64 (R)) W (Below.refl _ _) rfl
      simp only [putAll, Act.put, List.setIfInBounds_toArray, List.set_cons_succ, List.set_cons_zero] at fin
      exact fin
    · rintro vs W K hc hvl hw hK
      obtain ⟨x0, x1, x2, x3, x4, x5, x6, rfl⟩ := len7 hvl
      have HK := Lib.hid hK
      have HC := Lib.hid hc
      have HW := Lib.hid hw
      clear hK hc hw hvl
      obtain rfl : x2 = .int .i64 (A) := box_get (HW.out ⟨2, .data⟩ (by simp) rfl) rfl
      obtain rfl : x4 = .int .i64 (R) := box_get (HW.out ⟨4, .data⟩ (by simp) rfl) rfl
      simp only [putAll, Act.put, List.setIfInBounds_toArray, List.set_cons_succ, List.set_cons_zero]
      clear HW
      go_wp2_with fail
      refine (HCM.out W).mono ?_
      rintro e W' ⟨rfl, hb'⟩
      have HB' := Lib.hid hb'
      clear hb'
      go_wp2_with fail
      have fin := HK.out (.int .i64 (C)) W' HB'.out rfl
      simp only [putAll, Act.put, List.setIfInBounds_toArray, List.set_cons_succ, List.set_cons_zero] at fin
      exact fin
    · rintro vs W K hc hvl hw hK
      obtain ⟨x0, x1, x2, x3, x4, x5, x6, rfl⟩ := len7 hvl
      have HK := Lib.hid hK
      have HC := Lib.hid hc
      have HW := Lib.hid hw
      clear hK hc hw hvl
      obtain rfl : x5 = .int .i64 (C) := box_get (HW.out ⟨5, .data⟩ (by simp) rfl) rfl
      simp only [putAll, Act.put, List.setIfInBounds_toArray, List.set_cons_succ, List.set_cons_zero]
      clear HW
      go_wp2_with fail
      have fin := HK.out (.int .i64 (C)) W (Below.refl _ _) rfl
      simp only [putAll, Act.put, List.setIfInBounds_toArray, List.set_cons_succ, List.set_cons_zero] at fin
      exact fin
  case fin =>
    rintro vs W hJ
    obtain ⟨x0, x1, x2, x3, x4, x5, x6, rfl⟩ := len7 hJ.ln
    obtain rfl : x6 = .int .i64 (C) := box_get (hJ.val 6 rfl) rfl
    have HC := Lib.hid hJ.bl
    clear hJ
    simp only [putAll, Act.put, List.setIfInBounds_toArray, List.set_cons_succ, List.set_cons_zero]
    go_wp2_with fail
    go_ret
    exact ⟨rfl, Below.andThen BA.out HC.out (Nat.le_refl _)⟩
end Go.Proofs.Ytlemipnplgbckaa
