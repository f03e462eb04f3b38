import Derived.Test.YtlehddifcjklgaaBg
import Derived.Maps.OwnIn
import Derived.Maps.OwnSet
import Derived.Maps.AppendAt
import Derived.RangeFuncNested
import Derived.RangeFuncBound
import Derived.RangeFuncCalls
import Derived.RangeFuncLeaves
import Derived.Shelf.Abstract
import Derived.Shelf.RegionOpen
import Derived.WalkKit
import Derived.OwnWalkIn
import Derived.TacticsInMore
import Derived.LoopNIn
import Derived.LoopIn
import Derived.WalkMore
import Derived.Sort.QuietThIn
import Derived.Sort.QuietTacIn
import Derived.Sort.BigQuietIn
import Derived.WalkSpells
import Derived.WalkLawsBesides
import Derived.BigQuiet
import Derived.Deep.QuietTactic
import Derived.Lib.Hide
import Derived.Deep.RegionHeld3
import Derived.StillTailTactics
import Derived.Deep.LoopGhost
import Derived.Lib.IndexAny
namespace Go.Proofs.Ytlehddifcjklgaa
open Go.RowKit Go.Shelf
attribute [local go_sem] Oper.semAt_some
theorem eq58 (a b : Int) (W : World) : (Op.equalIn 10000 58 (.agg #[.int .i64 a, .int .i64 b]) (.agg #[.int .i64 a, .int .i64 b])).run Try.prog W = .ok true W := by
  have info3' : ∃ i, Try.prog.info? 3 = some i := by
    obtain ⟨i0, hi, _⟩ := info_parts info3
    exact ⟨i0, hi⟩
  obtain ⟨i, hi⟩ := info3'
  refine (run_equalIn_array (P := Try.prog) W 9999 _ _ Try.underlying58 hi).trans ?_
  rw [cells3]
  have p0 : ∀ W, (part 3 #[.int .i64 a, .int .i64 b] 0).run Try.prog W = .ok (.int .i64 a) W := fun W => by kernel_rfl
  have p1 : ∀ W, (part 3 #[.int .i64 a, .int .i64 b] 1).run Try.prog W = .ok (.int .i64 b) W := fun W => by kernel_rfl
  have pe : ∀ (a b : Int) (W : World), (Op.equalIn 9999 3 (.int .i64 a) (.int .i64 b)).run Try.prog W = .ok (a == b) W := fun a b W => by
    first
      | kernel_rfl
      | simp [Op.equalIn, go_sem]
  simp only [List.range, List.range.loop, Op.eqItems, Sem.run_bind, Nat.zero_mul, Nat.one_mul, p0, p1, Result.andThen_ok, pe, beq_self_eq_true, Bool.not_true, Bool.false_eq_true, if_false, Sem.run_pure]
theorem OwnP.pts {W : World} {n₀ : Nat} {a : Option Addr} {c : Nat} {ps : List Pt} (h : OwnP W n₀ (.slice a ps.length c) ps) : PtsA W a ps c := by
  obtain ⟨a', c', he, h⟩ := h.open
  cases he
  rcases h with ⟨_, _, h⟩ | ⟨g, _, h1, h2, h3⟩
  · exact .inl h
  · exact .inr ⟨g, 0, h1, h2, h3⟩
set_option maxRecDepth 100000 in
set_option maxHeartbeats 1000000 in
theorem HullTowers_any (ps : List Pt) (a : Option Addr) (c : Nat) (pl : Int) (w : World) (hp : PtsA w a ps c) (hc : ps.length ≤ c) (hn : a = none → c = 0) (hl : ps.length ≤ maxLen) (_hz : ∀ q ∈ ps, InI q.1 ∧ InI q.2) (_hi : InI pl) :
    Calls Try.prog 9 #[.slice a ps.length c, .int .i64 pl] w fun e w' => e = .returned (.bool true) ∧ Below w.heap.size w w' := by
  have hown := own_any ps a c w hp hc hn hl
  have h13 : (ps.take 13).length ≤ 13 := by rw [List.length_take]; omega
  generalize ps.take 13 = qs at *
  clear hp hc hn hl
  go_enter Try.func9, Try.ntmps9
  go_wp2_with fail
  refine hown.mono ?_
  rintro e w1 ⟨v, rfl, ho, hb⟩
  obtain ⟨a2, c2, rfl, _⟩ := ho.open
  have HP1 := Lib.hid ho.pts
  have T1 := Lib.hid hb
  clear hown ho hb
  have HT := rTower_any qs a2 c2 w1 HP1.out (by omega)
  cases ht : twrB qs
  · rw [ht] at HT
    have HTT := Lib.hid ht
    clear ht
    go_wp2_with fail
    refine HT.mono ?_
    rintro e w2 ⟨rfl, hb⟩
    have HP2 := Lib.hid (HP1.out.grow hb)
    have T2 := Lib.hid (Below.andThen T1.out hb (Nat.le_refl _))
    have HC := CheckTower_all qs a2 c2 w2 HP2.out (by omega)
    rw [HTT.out] at HC
    clear hb HT HP1 T1
    go_wp2_with fail
    refine HC.mono ?_
    rintro e w3 ⟨rfl, hb⟩
    have HP3 := Lib.hid (HP2.out.grow hb)
    have T3 := Lib.hid (Below.andThen T2.out hb (Nat.le_refl _))
    clear hb HC HP2 T2
    go_wp2_with fail
    refine (Stands_bad qs a2 c2 w3 HP3.out (by omega) HTT.out).mono ?_
    rintro e w4 ⟨rfl, hb⟩
    have HP4 := Lib.hid (HP3.out.grow hb)
    have T4 := Lib.hid (Below.andThen T3.out hb (Nat.le_refl _))
    clear hb HP3 T3
    go_wp2_with fail
    refine (Reach_bad qs a2 c2 w4 HP4.out (by omega) HTT.out).mono ?_
    rintro e w5 ⟨rfl, hb⟩
    have HP5 := Lib.hid (HP4.out.grow hb)
    have T5 := Lib.hid (Below.andThen T4.out hb (Nat.le_refl _))
    clear hb HP4 T4
    have HC := CheckTower_all qs a2 c2 w5 HP5.out (by omega)
    rw [HTT.out] at HC
    go_wp2_with fail
    refine HC.mono ?_
    rintro e w6 ⟨rfl, hb⟩
    have HP6 := Lib.hid (HP5.out.grow hb)
    have T6 := Lib.hid (Below.andThen T5.out hb (Nat.le_refl _))
    clear hb HC HP5 T5
    go_wp2_with fail
    refine (Balance_bad qs a2 c2 pl w6 HP6.out (by omega) HTT.out).mono ?_
    rintro e w7 ⟨rfl, hb⟩
    have T7 := Lib.hid (Below.al (Below.andThen T6.out hb (Nat.le_refl _)) (Nat.le_refl _) (.cells #[.int .i64 0, .int .i64 0] 58))
    have E0 := eq58 0 0
    clear hb HP6 T6
    go_wp2_with fail
    refine (awake_any _).mono ?_
    rintro e w8 ⟨rfl, hb⟩
    have T8 := Lib.hid (Below.andThen T7.out hb (Nat.le_refl _))
    clear hb T7
    go_wp2_with fail
    go_ret
    exact ⟨rfl, T8.out⟩
  · rw [ht] at HT
    obtain ⟨h1, h12⟩ := twr_len ht
    have HTT := Lib.hid ht
    clear ht
    go_wp2_with fail
    refine HT.mono ?_
    rintro e w2 ⟨rfl, hb⟩
    have HP2 := Lib.hid (HP1.out.grow hb)
    have T2 := Lib.hid (Below.andThen T1.out hb (Nat.le_refl _))
    have HC := CheckTower_all qs a2 c2 w2 HP2.out (by omega)
    rw [HTT.out] at HC
    clear hb HT HP1 T1
    have hdd : (decide (0 ≤ pl) = true ∧ decide (pl < (qs.length : Int)) = true) ∨ ((pl < 0 ∨ (qs.length : Int) ≤ pl) ∧ (decide (0 ≤ pl) = false ∨ (decide (0 ≤ pl) = true ∧ decide (pl < (qs.length : Int)) = false))) := by
      by_cases h : 0 ≤ pl
      · by_cases h' : pl < qs.length
        · exact .inl ⟨decide_eq_true h, decide_eq_true h'⟩
        · exact .inr ⟨.inr (by omega), .inr ⟨decide_eq_true h, decide_eq_false h'⟩⟩
      · exact .inr ⟨.inl (by omega), .inl (decide_eq_false h)⟩
    go_wp2_with fail
    refine HC.mono ?_
    rintro e w3 ⟨rfl, hb⟩
    have HP3 := Lib.hid (HP2.out.grow hb)
    have T3 := Lib.hid (Below.andThen T2.out hb (Nat.le_refl _))
    clear hb HC HP2 T2
    rcases hdd with ⟨dd, de⟩ | ⟨hpl, hd⟩
    · go_wp2_with fail
      refine (awake_any _).mono ?_
      rintro e w8 ⟨rfl, hb⟩
      have T8 := Lib.hid (Below.andThen T3.out hb (Nat.le_refl _))
      clear hb T3
      go_wp2_with fail
      go_ret
      exact ⟨rfl, T8.out⟩
    · have HBA := Lib.hid (Balance_arg qs a2 c2 pl w3 HP3.out (by omega) HTT.out hpl)
      clear hpl
      rcases hd with dd | ⟨dd, de⟩
      all_goals
        go_wp2_with fail
        refine HBA.out.mono ?_
        rintro e w7 ⟨rfl, hb⟩
        have T7 := Lib.hid (Below.al (Below.andThen T3.out hb (Nat.le_refl _)) (Nat.le_refl _) (.cells #[.int .i64 0, .int .i64 0] 58))
        have E0 := eq58 0 0
        clear hb HP3 T3
        go_wp2_with fail
        refine (awake_any _).mono ?_
        rintro e w8 ⟨rfl, hb⟩
        have T8 := Lib.hid (Below.andThen T7.out hb (Nat.le_refl _))
        clear hb T7
        go_wp2_with fail
        go_ret
        exact ⟨rfl, T8.out⟩
end Go.Proofs.Ytlehddifcjklgaa
