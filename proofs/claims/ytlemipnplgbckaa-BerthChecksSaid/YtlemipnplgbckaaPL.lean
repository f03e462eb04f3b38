import Derived.Test.YtlemipnplgbckaaPK
import Derived.Laws.AppendOwn
import Derived.ChangeKeysEq
import Derived.Maps.RangeWalk
import Derived.Maps.OwnIn
import Derived.Maps.AppendAt
import Derived.RangeFuncNested
import Derived.RangeFuncBound
import Derived.RangeFuncCalls
import Derived.RangeFuncLeaves
import Derived.Shelf.Abstract
import Derived.Shelf.RegionOpen
import Derived.WalkKit
import Derived.WalkMore
import Derived.OwnWalkIn
import Derived.TacticsInMore
import Derived.LoopNIn
import Derived.LoopIn
import Derived.WalkSpells
import Derived.WalkLawsBesides
import Derived.BigQuiet
import Derived.Deep.QuietTactic
import Derived.Lib.Hide
import Derived.Deep.RegionHeld3
import Derived.StillTailTactics
import Derived.Deep.LoopGhost
import Derived.Maps.OwnSet
import Derived.Lib.IndexAny
import Derived.Sort.QuietThIn
import Derived.Sort.QuietTacIn
import Derived.Sort.BigQuietIn
import Derived.Laws.OwnMore
import Derived.DeepKeys4
import Derived.Maps.Views
import Derived.Maps.OwnOps
import Derived.Laws.OwnMore
import Derived.Deep.DeepCutAuto
import Derived.ChangeKeysEq
namespace Go.Proofs.Ytlemipnplgbckaa
open Go.RowKit Go.Shelf
attribute [local go_sem] Oper.semAt_some
theorem two_start (w : World) (E1 E2 : TypeId) (L1 L2 : List Value) : ∃ V, V = (w.alloc (.cells L1.toArray E1)).alloc (.cells L2.toArray E2) ∧ Row V w.heap.size E1 L1 ∧ Row V (w.heap.size + 1) E2 L2 ∧ Below w.heap.size w V ∧ V.heap.size = w.heap.size + 1 + 1 := by
  refine ⟨_, rfl, ?_⟩
  obtain ⟨l1, r1⟩ := box_start w E1 L1
  have s1 := size_al w (.cells L1.toArray E1)
  generalize w.alloc (.cells L1.toArray E1) = w1 at *
  obtain ⟨l2, r2⟩ := box_start w1 E2 L2
  have s2 := size_al w1 (.cells L2.toArray E2)
  exact ⟨r1.below l2 r1.lt, by rw [← s1]; exact r2, Below.andThen l1 l2 (Nat.le_refl _), by rw [s2, s1]⟩
def plN (x : Int) : Int := x % 18446744073709551616 % 41 - 20
def placeF (p : Pt) : Pt := (plN p.1, plN p.2)
theorem plN_bd (x : Int) : Bd 20 (plN x) := by unfold Bd plN; omega
theorem placeF_bd (p : Pt) : Bd 20 (placeF p).1 ∧ Bd 20 (placeF p).2 := ⟨plN_bd _, plN_bd _⟩
theorem plN_raw (x : Int) : wrap64 (wrap64 ((IntKind.u64.wrap x).tmod 41) - 20) = plN x := by
  have t1 : (IntKind.u64.wrap x).tmod 41 = x % 18446744073709551616 % 41 := by rw [u64_wrap]; exact Int.tmod_eq_emod_of_nonneg (by omega)
  rw [t1]
  unfold wrap64 plN
  omega
set_option maxRecDepth 100000 in
set_option maxHeartbeats 400000 in
theorem place_any (a b : Int) (w : World) : Calls Try.prog 36 #[.agg #[.int .i64 a, .int .i64 b]] w fun e w' => e = .returned (.agg #[.int .i64 (plN a), .int .i64 (plN b)]) ∧ Below w.heap.size w w' := by
  have HP := Lib.hid (And.intro (plN_raw a) (plN_raw b))
  go_enter Try.func36, Try.ntmps36
  go_wp2_with fail
  rw [HP.out.1, HP.out.2]
  obtain ⟨V, hV, ra, rr, bV, hs⟩ := two_start w 28 28 [.int .i64 a, .int .i64 b] [.int .i64 (plN a), .int .i64 (plN b)]
  rw [show (w.alloc (.cells #[.int .i64 a, .int .i64 b] 28)).alloc (.cells #[.int .i64 (plN a), .int .i64 (plN b)] 28) = V from hV.symm]
  have v0 := rr.cell 0
  have v1 := rr.cell 1
  simp only [List.getElem?_cons_zero, List.getElem?_cons_succ] at v0 v1
  exact bodyPost_ret (v := .agg #[.int .i64 (plN a), .int .i64 (plN b)]) (by simp [results, Try.results36, go_sem, v0, v1]) rfl ⟨rfl, bV⟩
set_option maxRecDepth 100000 in
set_option maxHeartbeats 400000 in
theorem In_any (a b : Int) (w : World) : Calls Try.prog 34 #[.agg #[.int .i64 a, .int .i64 b]] w fun e w' => e = .returned (.bool (okP (a, b))) ∧ Below w.heap.size w w' := by
  have ba := Below.al (Below.refl w.heap.size w) (Nat.le_refl _) (.cells #[.int .i64 a, .int .i64 b] 28)
  have BA := Lib.hid ba
  have H : okP (a, b) = (decide (-20 ≤ a) && (decide (a ≤ 20) && (decide (-20 ≤ b) && decide (b ≤ 20)))) := by
    rw [Bool.eq_iff_iff, okP_iff]
    simp [Bd, and_assoc]
  have HO := Lib.hid H
  clear H ba
  by_cases h1 : -20 ≤ a
  · have d1 : decide (-20 ≤ a) = true := decide_eq_true h1
    by_cases h2 : a ≤ 20
    · have d2 : decide (a ≤ 20) = true := decide_eq_true h2
      by_cases h3 : -20 ≤ b
      · have d3 : decide (-20 ≤ b) = true := decide_eq_true h3
        by_cases h4 : b ≤ 20
        · have d4 : decide (b ≤ 20) = true := decide_eq_true h4
          have HZ := Lib.hid (show okP (a, b) = true by rw [HO.out, d1, d2, d3, d4]; rfl)
          rw [HZ.out]
          clear h1 h2 h3 h4
          go_enter Try.func34, Try.ntmps34
          go_wp2_with fail
          go_ret
          exact ⟨rfl, BA.out⟩
        · have d4 : decide (b ≤ 20) = false := decide_eq_false h4
          have HZ := Lib.hid (show okP (a, b) = false by rw [HO.out, d1, d2, d3, d4]; rfl)
          rw [HZ.out]
          clear h1 h2 h3 h4
          go_enter Try.func34, Try.ntmps34
          go_wp2_with fail
          go_ret
          exact ⟨rfl, BA.out⟩
      · have d3 : decide (-20 ≤ b) = false := decide_eq_false h3
        have HZ := Lib.hid (show okP (a, b) = false by rw [HO.out, d1, d2, d3]; rfl)
        rw [HZ.out]
        clear h1 h2 h3
        go_enter Try.func34, Try.ntmps34
        go_wp2_with fail
        go_ret
        exact ⟨rfl, BA.out⟩
    · have d2 : decide (a ≤ 20) = false := decide_eq_false h2
      have HZ := Lib.hid (show okP (a, b) = false by rw [HO.out, d1, d2]; rfl)
      rw [HZ.out]
      clear h1 h2
      go_enter Try.func34, Try.ntmps34
      go_wp2_with fail
      go_ret
      exact ⟨rfl, BA.out⟩
  · have d1 : decide (-20 ≤ a) = false := decide_eq_false h1
    have HZ := Lib.hid (show okP (a, b) = false by rw [HO.out, d1]; rfl)
    rw [HZ.out]
    clear h1
    go_enter Try.func34, Try.ntmps34
    go_wp2_with fail
    go_ret
    exact ⟨rfl, BA.out⟩
def fd (a b : Pt) : Int := (a.1 - b.1) * (a.1 - b.1) + (a.2 - b.2) * (a.2 - b.2)
set_option maxRecDepth 100000 in
set_option maxHeartbeats 400000 in
theorem Far_any (a1 a2 b1 b2 : Int) (w : World) (h1 : Bd 20 a1) (h2 : Bd 20 a2) (h3 : Bd 20 b1) (h4 : Bd 20 b2) :
    Calls Try.prog 51 #[.agg #[.int .i64 a1, .int .i64 a2], .agg #[.int .i64 b1, .int .i64 b2]] w fun e w' => e = .returned (.int .i64 (fd (a1, a2) (b1, b2))) ∧ Below w.heap.size w w' := by
  have e1 := i64_bd (h1.sub h3) (by omega)
  have e2 := i64_bd (h2.sub h4) (by omega)
  have m1 := (h1.sub h3).mul (h1.sub h3)
  have m2 := (h2.sub h4).mul (h2.sub h4)
  have e3 := i64_bd m1 (by omega)
  have e4 := i64_bd m2 (by omega)
  have e5 := i64_bd (m1.add m2) (by omega)
  have HZ := Lib.hid (show fd (a1, a2) (b1, b2) = (a1 - b1) * (a1 - b1) + (a2 - b2) * (a2 - b2) from rfl)
  rw [HZ.out]
  have BA := Lib.hid (((Below.refl w.heap.size w).alloc (Nat.le_refl _) (.cells #[.int .i64 a1, .int .i64 a2] 28)).alloc (by simp) (.cells #[.int .i64 b1, .int .i64 b2] 28))
  clear m1 m2 h1 h2 h3 h4
  go_enter Try.func51, Try.ntmps51
  go_wp2_with fail
  go_ret
  exact ⟨rfl, BA.out⟩
set_option maxRecDepth 100000 in
set_option maxHeartbeats 400000 in
theorem dist_any (s1 s2 p1 p2 : Int) (w : World) (h1 : Bd 20 s1) (h2 : Bd 20 s2) (h3 : Bd 20 p1) (h4 : Bd 20 p2) :
    Calls Try.prog 66 #[.agg #[.int .i64 s1, .int .i64 s2], .agg #[.int .i64 p1, .int .i64 p2]] w fun e w' => e = .returned (.int .i64 (fd (p1, p2) (s1, s2))) ∧ Below w.heap.size w w' := by
  have e1 := i64_bd (h3.sub h1) (by omega)
  have e2 := i64_bd (h4.sub h2) (by omega)
  have HZ := Lib.hid (show fd (p1, p2) (s1, s2) = (p1 - s1) * (p1 - s1) + (p2 - s2) * (p2 - s2) from rfl)
  have B1 := Lib.hid (((Below.refl w.heap.size w).alloc (Nat.le_refl _) (.cells #[.int .i64 s1, .int .i64 s2] 94)).alloc (by simp) (.cells #[.int .i64 p1, .int .i64 p2] 28))
  have HD := Lib.hid (And.intro ((h3.sub h1).mono (C := 1000000000) (by omega)) ((h4.sub h2).mono (C := 1000000000) (by omega)))
  clear h1 h2 h3 h4
  go_enter Try.func66, Try.ntmps66
  go_wp2_with fail
  obtain ⟨V, hV, _, _, bV, hs⟩ := two_start w 94 28 [.int .i64 s1, .int .i64 s2] [.int .i64 p1, .int .i64 p2]
  rw [show (w.alloc (.cells #[.int .i64 s1, .int .i64 s2] 94)).alloc (.cells #[.int .i64 p1, .int .i64 p2] 28) = V from hV.symm]
  have r := Row.new V 3 [.int .i64 (p1 - s1), .int .i64 (p2 - s2)]
  rw [hs] at r
  refine (sq_any (p1 - s1) (p2 - s2) (w.heap.size + 1 + 1) 0 2 _ (r.cell 0) (r.cell 1) (Nat.le_refl _) HD.out.1 HD.out.2).mono ?_
  rintro e W ⟨rfl, rfl⟩
  have BB := Lib.hid (Below.andThen bV (Below.al (Below.refl V.heap.size V) (Nat.le_refl _) (.cells #[.int .i64 (p1 - s1), .int .i64 (p2 - s2)] 3)) (Nat.le_refl _))
  clear r hV bV hs HD B1
  go_wp2_with fail
  go_ret
  exact ⟨ret_int HZ.out.symm, BB.out⟩
set_option maxRecDepth 100000 in
set_option maxHeartbeats 400000 in
theorem near_any (s1 s2 p1 p2 : Int) (w : World) (h1 : Bd 20 s1) (h2 : Bd 20 s2) (h3 : Bd 20 p1) (h4 : Bd 20 p2) :
    Calls Try.prog 67 #[.agg #[.int .i64 s1, .int .i64 s2], .agg #[.int .i64 p1, .int .i64 p2]] w fun e w' => e = .returned (.int .i64 (-(fd (p1, p2) (s1, s2)))) ∧ Below w.heap.size w w' := by
  have m1 := (h3.sub h1).mul (h3.sub h1)
  have m2 := (h4.sub h2).mul (h4.sub h2)
  have e5 := i64_bd (m1.add m2).neg (by omega)
  have HD := Lib.hid (fun W => dist_any s1 s2 p1 p2 W h1 h2 h3 h4)
  have HZ : (p1 - s1) * (p1 - s1) + (p2 - s2) * (p2 - s2) = fd (p1, p2) (s1, s2) := rfl
  rw [HZ] at e5
  generalize fd (p1, p2) (s1, s2) = F at *
  clear HZ m1 m2 h1 h2 h3 h4
  go_enter Try.func67, Try.ntmps67
  go_wp2_with fail
  obtain ⟨V, hV, _, _, bV, hs⟩ := two_start w 94 28 [.int .i64 s1, .int .i64 s2] [.int .i64 p1, .int .i64 p2]
  rw [show (w.alloc (.cells #[.int .i64 s1, .int .i64 s2] 94)).alloc (.cells #[.int .i64 p1, .int .i64 p2] 28) = V from hV.symm]
  refine (HD.out V).mono ?_
  rintro e W ⟨rfl, hb⟩
  have BB := Lib.hid (Below.andThen bV hb (Nat.le_refl _))
  clear hV bV hs HD hb
  go_wp2_with fail
  go_ret
  exact ⟨rfl, BB.out⟩
end Go.Proofs.Ytlemipnplgbckaa
