import Derived.Test.YtlehddifcjklgaaBs
import Derived.Maps.OwnIn
import Derived.Maps.OwnSet
import Derived.Maps.AppendAt
import Derived.RangeFuncNested
import Derived.RangeFuncBound
import Derived.RangeFuncCalls
import Derived.RangeFuncLeaves
import Derived.Shelf.Abstract
import Derived.Shelf.RegionOpen
import Derived.WalkKit
import Derived.OwnWalkIn
import Derived.TacticsInMore
import Derived.LoopNIn
import Derived.LoopIn
import Derived.WalkMore
import Derived.Sort.QuietThIn
import Derived.Sort.QuietTacIn
import Derived.Sort.BigQuietIn
import Derived.WalkSpells
import Derived.WalkLawsBesides
import Derived.BigQuiet
import Derived.Deep.QuietTactic
import Derived.Lib.Hide
import Derived.Deep.RegionHeld3
import Derived.StillTailTactics
import Derived.Deep.LoopGhost
import Derived.Lib.IndexAny
namespace Go.Proofs.Ytlehddifcjklgaa
open Go.RowKit Go.Shelf
attribute [local go_sem] Oper.semAt_some
set_option maxRecDepth 100000 in
theorem eq29 (a b c : Int) (W : World) : (Op.equalIn 10000 29 (.agg #[.int .i64 a, .int .i64 b, .int .i64 c]) (.agg #[.int .i64 a, .int .i64 b, .int .i64 c])).run Try.prog W = .ok true W := by
  have info3' : ∃ i, Try.prog.info? 3 = some i := by
    obtain ⟨i0, hi, _⟩ := info_parts info3
    exact ⟨i0, hi⟩
  obtain ⟨i, hi⟩ := info3'
  refine (run_equalIn_array (P := Try.prog) W 9999 _ _ Try.underlying29 hi).trans ?_
  rw [cells3]
  have p0 : ∀ W, (part 3 #[.int .i64 a, .int .i64 b, .int .i64 c] 0).run Try.prog W = .ok (.int .i64 a) W := fun W => by kernel_rfl
  have p1 : ∀ W, (part 3 #[.int .i64 a, .int .i64 b, .int .i64 c] 1).run Try.prog W = .ok (.int .i64 b) W := fun W => by kernel_rfl
  have p2 : ∀ W, (part 3 #[.int .i64 a, .int .i64 b, .int .i64 c] 2).run Try.prog W = .ok (.int .i64 c) W := fun W => by kernel_rfl
  have pe : ∀ (a b : Int) (W : World), (Op.equalIn 9999 3 (.int .i64 a) (.int .i64 b)).run Try.prog W = .ok (a == b) W := fun a b W => by
    first
      | kernel_rfl
      | simp [Op.equalIn, go_sem]
  simp only [List.range, List.range.loop, Op.eqItems, Sem.run_bind, Nat.zero_mul, Nat.one_mul, Nat.reduceMul, p0, p1, p2, Result.andThen_ok, pe, beq_self_eq_true, Bool.not_true, Bool.false_eq_true, if_false, Sem.run_pure]
set_option maxRecDepth 100000 in
set_option maxHeartbeats 2000000 in
theorem HullChecks_any (ps : List Pt) (a : Option Addr) (c : Nat) (sd : Int) (w : World) (hp : PtsA w a ps c) (hc : ps.length ≤ c) (hn : a = none → c = 0) (hl : ps.length ≤ maxLen) (_hz : ∀ q ∈ ps, InI q.1 ∧ InI q.2) (_hi : InI sd) :
    Calls Try.prog 3 #[.slice a ps.length c, .int .i64 sd] w fun e w' => e = .returned (.bool true) ∧ Below w.heap.size w w' := by
  have hown := own_any ps a c w hp hc hn hl
  have h13 : (ps.take 13).length ≤ 13 := by rw [List.length_take]; omega
  generalize ps.take 13 = qs at *
  clear hp hc hn hl _hz
  go_enter Try.func3, Try.ntmps3
  go_wp2_with fail
  refine hown.mono ?_
  rintro e w1 ⟨v, rfl, ho, hb⟩
  obtain ⟨a2, c2, rfl, _⟩ := ho.open
  have HP1 := Lib.hid ho.ptsZ
  have T1 := Lib.hid hb
  clear hown ho hb
  have HR := rHull_any qs a2 c2 w1 HP1.out (by omega)
  cases ht : chk qs
  · rw [ht] at HR
    have HTT := Lib.hid ht
    clear ht
    go_wp2_with fail
    refine HR.mono ?_
    rintro e w2 ⟨rfl, hb⟩
    have HP2 := Lib.hid (HP1.out.grow hb)
    have T2 := Lib.hid (Below.andThen T1.out hb (Nat.le_refl _))
    have HC := Lib.hid (fun W (h : Below w2.heap.size w2 W) => (show Calls Try.prog 20 #[.slice a2 qs.length c2] W fun e w' => e = .returned (.int .i64 30) ∧ Below W.heap.size W w' by
      have := Check_all qs a2 c2 W (HP2.out.grow h) (by omega)
      rw [HTT.out] at this; exact this))
    have HM := Lib.hid (fun sv W (h : Below w2.heap.size w2 W) => bodyOf_bad (.slice a2 qs.length c2) sv W (fun W' h' => HC.out W' (Below.andThen h h' (Nat.le_refl _))))
    clear hb HR HP1 T1
    go_wp2_with fail
    refine (HC.out w2 (Below.refl _ _)).mono ?_
    rintro e w3 ⟨rfl, hb⟩
    have T3 := Lib.hid hb
    clear hb
    go_wp2_with fail
    refine (Area_bad (.slice a2 qs.length c2) w3 (fun W h => HC.out W (Below.andThen T3.out h (Nat.le_refl _)))).mono ?_
    rintro e w4 ⟨rfl, hb⟩
    have T4 := Lib.hid (Below.andThen T3.out hb (Nat.le_refl _))
    clear hb T3
    go_wp2_with fail
    refine (Middle_bad (.slice a2 qs.length c2) w4 (fun W h => HM.out _ W (Below.andThen T4.out h (Nat.le_refl _)))).mono ?_
    rintro e w5 ⟨rfl, hb⟩
    have T5 := Lib.hid (Below.al (Below.andThen T4.out hb (Nat.le_refl _)) (Nat.le_refl _) (.cells #[.int .i64 0, .int .i64 0, .int .i64 0] 29))
    have R5 := Lib.hid (Row.new w5 29 [.int .i64 0, .int .i64 0, .int .i64 0])
    clear hb T4
    go_wp2_with fail
    generalize w5.alloc (.cells #[.int .i64 0, .int .i64 0, .int .i64 0] 29) = V5 at *
    refine (Rests_bad (.slice a2 qs.length c2) V5 (fun W h => HM.out _ W (Below.andThen T5.out h (Nat.le_refl _)))).mono ?_
    rintro e w6 ⟨rfl, hb⟩
    have T6 := Lib.hid (Below.andThen T5.out hb (Nat.le_refl _))
    have R6 := Lib.hid (R5.out.below hb R5.out.lt)
    clear hb T5 R5
    go_wp2_with fail
    refine (Firm_bad (.slice a2 qs.length c2) w6 (fun W h => HM.out _ W (Below.andThen T6.out h (Nat.le_refl _)))).mono ?_
    rintro e w7 ⟨rfl, hb⟩
    have T7 := Lib.hid (Below.andThen T6.out hb (Nat.le_refl _))
    have R7 := Lib.hid (R6.out.below hb R6.out.lt)
    clear hb T6 R6
    go_wp2_with fail
    refine (Tips_bad (.slice a2 qs.length c2) w7 (fun W h => HM.out _ W (Below.andThen T7.out h (Nat.le_refl _)))).mono ?_
    rintro e w8 ⟨rfl, hb⟩
    have T8 := Lib.hid (Below.andThen T7.out hb (Nat.le_refl _))
    have R8 := Lib.hid (R7.out.below hb R7.out.lt)
    clear hb T7 R7
    go_wp2_with fail
    refine (Lowest_bad (.slice a2 qs.length c2) w8 (fun W h => HM.out _ W (Below.andThen T8.out h (Nat.le_refl _)))).mono ?_
    rintro e w9 ⟨rfl, hb⟩
    have T9 := Lib.hid (Below.andThen T8.out hb (Nat.le_refl _))
    have R9 := Lib.hid (R8.out.below hb R8.out.lt)
    clear hb T8 R8
    go_wp2_with fail
    refine (Turned_bad (.slice a2 qs.length c2) w9 (fun W h => HC.out W (Below.andThen T9.out h (Nat.le_refl _)))).mono ?_
    rintro e w10 ⟨rfl, hb⟩
    have T10 := Lib.hid (Below.andThen T9.out hb (Nat.le_refl _))
    have R10 := Lib.hid (R9.out.below hb R9.out.lt)
    clear hb T9 R9
    have c0 := R10.out.cell 0
    have c1 := R10.out.cell 1
    have c2' := R10.out.cell 2
    simp only [List.getElem?_cons_zero, List.getElem?_cons_succ] at c0 c1 c2'
    have E29 := eq29 0 0 0
    go_wp2_with fail
    clear c0 c1 c2' E29
    have HRO := Lib.hid (Roll_bad (.slice a2 qs.length c2) sd 30 (.inl rfl) w10 (fun W g h hg hgc => HM.out _ W (Below.andThen T10.out h (Nat.le_refl _))))
    refine HRO.out.mono ?_
    rintro e u1 ⟨rfl, hb⟩
    have U1 := Lib.hid (Below.andThen T10.out hb (Nat.le_refl _))
    clear hb HRO
    go_wp2_with fail
    refine (Lean_bad (.slice a2 qs.length c2) sd 30 (.inl rfl) u1 (fun W g h hg hgc => HM.out _ W (Below.andThen U1.out h (Nat.le_refl _)))).mono ?_
    rintro e u2 ⟨rfl, hb⟩
    have U2 := Lib.hid (Below.al (Below.andThen U1.out hb (Nat.le_refl _)) (Nat.le_refl _) (.cells #[.int .i64 0, .int .i64 0] 39))
    have E39 := eq39 0 0
    have rr := two_cells (Row.new u2 39 [.int .i64 0, .int .i64 0])
    obtain ⟨y0, y1, _, _⟩ := rr
    clear hb U1
    go_wp2_with fail
    refine (awake_any _).mono ?_
    rintro e u3 ⟨rfl, hb⟩
    have U3 := Lib.hid (Below.andThen U2.out hb (Nat.le_refl _))
    clear hb U2
    go_wp2_with fail
    go_ret
    exact ⟨rfl, Below.andThen T2.out U3.out (Nat.le_refl _)⟩
  · rw [ht] at HR
    have HTT := Lib.hid ht
    have hqs : qs ≠ [] := fun h => by subst h; simp [chk, areP] at ht
    clear ht
    go_wp2_with fail
    refine HR.mono ?_
    rintro e w2 ⟨rfl, hb⟩
    obtain ⟨b2, rfl, hpt, _⟩ : ∃ b2, a2 = some ⟨b2, 0, none⟩ ∧ PtsAt w2 b2 0 qs ∧ qs.length ≤ c2 := by
      rcases HP1.out.grow hb with h | h
      · exact absurd h hqs
      · exact h
    have HP2 := Lib.hid hpt
    have T2 := Lib.hid (Below.andThen T1.out hb (Nat.le_refl _))
    clear hb HR HP1 T1 hpt hqs
    go_wp2_with fail
    have hC := check_any qs b2 c2 w2 HP2.out (by omega)
    rw [HTT.out] at hC
    refine hC.mono ?_
    rintro e w3 ⟨rfl, hb⟩
    have T3 := Lib.hid hb
    clear hb hC
    by_cases hs : 0 ≤ sd ∧ sd < qs.length
    · have d1 : decide (sd < 0) = false := decide_eq_false (by omega)
      have d2 : decide ((qs.length : Int) ≤ sd) = false := decide_eq_false (by omega)
      clear hs
      go_wp2_with fail
      refine (awake_any _).mono ?_
      rintro e u3 ⟨rfl, hb⟩
      have U3 := Lib.hid (Below.andThen T3.out hb (Nat.le_refl _))
      clear hb
      go_wp2_with fail
      go_ret
      exact ⟨rfl, Below.andThen T2.out U3.out (Nat.le_refl _)⟩
    · have hdd : decide (sd < 0) = true ∨ (decide (sd < 0) = false ∧ decide ((qs.length : Int) ≤ sd) = true) := by
        by_cases h : sd < 0
        · exact .inl (decide_eq_true h)
        · exact .inr ⟨decide_eq_false h, decide_eq_true (by omega)⟩
      have HBA := Lib.hid (fun W g (h : Below w2.heap.size w2 W) hg hgc => bodyOf_arg qs b2 c2 W g sd hg hgc (by omega) (HP2.out.grow h) HTT.out)
      clear hs
      rcases hdd with dd | ⟨dd, de⟩
      all_goals
        go_wp2_with fail
        have HRO := Lib.hid (Roll_bad (.slice (some ⟨b2, 0, none⟩) qs.length c2) sd 1 (.inr rfl) w3 (fun W g h hg hgc => HBA.out W g (Below.andThen T3.out h (Nat.le_refl _)) hg hgc))
        refine HRO.out.mono ?_
        rintro e u1 ⟨rfl, hb⟩
        have U1 := Lib.hid (Below.andThen T3.out hb (Nat.le_refl _))
        clear hb HRO
        go_wp2_with fail
        refine (Lean_bad (.slice (some ⟨b2, 0, none⟩) qs.length c2) sd 1 (.inr rfl) u1 (fun W g h hg hgc => HBA.out W g (Below.andThen U1.out h (Nat.le_refl _)) hg hgc)).mono ?_
        rintro e u2 ⟨rfl, hb⟩
        have U2 := Lib.hid (Below.al (Below.andThen U1.out hb (Nat.le_refl _)) (Nat.le_refl _) (.cells #[.int .i64 0, .int .i64 0] 39))
        have E39 := eq39 0 0
        have rr := two_cells (Row.new u2 39 [.int .i64 0, .int .i64 0])
        obtain ⟨y0, y1, _, _⟩ := rr
        clear hb U1
        go_wp2_with fail
        refine (awake_any _).mono ?_
        rintro e u3 ⟨rfl, hb⟩
        have U3 := Lib.hid (Below.andThen U2.out hb (Nat.le_refl _))
        clear hb U2
        go_wp2_with fail
        go_ret
        exact ⟨rfl, Below.andThen T2.out U3.out (Nat.le_refl _)⟩

end Go.Proofs.Ytlehddifcjklgaa
