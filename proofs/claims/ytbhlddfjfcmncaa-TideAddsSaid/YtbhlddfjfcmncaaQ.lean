import Derived.Test.YtbhlddfjfcmncaaP
import Derived.Test.YtbhlddfjfcmncaaIter
import Derived.Maps.OwnIn
import Derived.Maps.OwnSet
import Derived.Test.YtbhlddfjfcmncaaShelf
import Derived.RangeFuncNested
import Derived.RangeFuncBound
import Derived.RangeFuncCalls
import Derived.RangeFuncLeaves
import Derived.Shelf.Abstract
import Derived.Shelf.RegionOpen
import Derived.WalkKit
import Derived.OwnWalkIn
import Derived.TacticsInMore
import Derived.LoopNIn
import Derived.LoopIn
import Derived.WalkSpells
import Derived.WalkLawsBesides
import Derived.BigQuiet
import Derived.Deep.QuietTactic
import Derived.Lib.Hide
import Derived.Deep.RegionHeld3
import Derived.StillTailTactics
import Derived.Lib.MakeNoZero
import Derived.Laws.CopyOwn
import Derived.Deep.RegionLaw
import Derived.Deep.LoopGhost
import Derived.Lib.IndexAny
namespace Go.Proofs.Ytbhlddfjfcmncaa
open Go.RowKit Go.Shelf
attribute [local go_sem] Oper.semAt_some
def IntsAt (w : World) (b o : Nat) (l : List Nat) : Prop := ∀ i (h : i < l.length), w.cell? ⟨b, o + i, none⟩ = some (.int .i64 ((l[i] : Nat) : Int))
theorem nat_neq' (a b : Nat) : (((a : Nat) : Int) != ((b : Nat) : Int)) = (a != b) := nat_neq a b
theorem take_eq_succ' {l m : List Nat} {k : Nat} (h1 : k < l.length) (h2 : k < m.length) (h : l.take k = m.take k) (he : l[k] = m[k]) : l.take (k + 1) = m.take (k + 1) := by
  rw [List.take_succ_eq_append_getElem h1, List.take_succ_eq_append_getElem h2, h, he]

set_option maxHeartbeats 400000 in
theorem ints_any (b1 o1 c1 b2 o2 c2 : Nat) (l m : List Nat) (w : World) (n1 n2 : Nat) (hn1 : l.length = n1) (hn2 : m.length = n2) (hl : n1 ≤ 1000000) (hm : n2 ≤ 1000000) (h1 : IntsAt w b1 o1 l) (h2 : IntsAt w b2 o2 m) :
    Calls Try.prog 52 #[.slice (some ⟨b1, o1, none⟩) n1 c1, .slice (some ⟨b2, o2, none⟩) n2 c2] w fun e w' => e = .returned (.bool (decide (l = m))) ∧ ∃ n, w' = w.drewN n := by
  have H1 := Lib.hid h1
  have H2 := Lib.hid h2
  have N1 := Lib.hid hn1
  have N2 := Lib.hid hn2
  clear h1 h2 hn1 hn2
  by_cases hne : n1 = n2
  · subst hne
    have t1 : (((n1 : Nat) : Int) != (n1 : Int)) = false := by simp
    go_enter Try.func52, Try.ntmps52
    go_wp2
    clear t1
    go_loopw [5] (fun i wr => ∃ k : Nat, k ≤ n1 ∧ i = .int .i64 k ∧ Hid (l.take k = m.take k) ∧ ∃ n, wr = w.drewN n) (fun i _ => n1 - (Go.RowKit.intOf i).toNat)
    case atStart => exact ⟨0, Nat.zero_le _, rfl, rfl, 0, rfl⟩
    case round =>
      obtain ⟨k, hk, rfl, ht, q, rfl⟩ := hrel
      by_cases hlt : k < n1
      · have hk1 : k < l.length := by rw [N1.out]; exact hlt
        have hk2 : k < m.length := by rw [N2.out]; exact hlt
        have a1 := H1.out k hk1
        have a2 := H2.out k hk2
        have E := Lib.hid (nat_neq' l[k] m[k])
        have HT : ∀ (he : l[k] = m[k]), Hid (l.take (k + 1) = m.take (k + 1)) := fun he => Lib.hid (take_eq_succ' hk1 hk2 ht.out he)
        have HF : ∀ (he : l[k] ≠ m[k]), Hid (l ≠ m) := fun he => Lib.hid (fun h => he (by subst h; rfl))
        have HT' := Lib.hid HT
        have HF' := Lib.hid HF
        clear HT HF
        generalize l[k] = x at *
        generalize m[k] = y at *
        cases hb : ((x : Int) != (y : Int))
        · have he : Hid (x = y) := Lib.hid (by rw [show _ = _ from E.out] at hb; simpa using hb)
          go_wp2
          go_quiet (fail)
          go_wp2
          go_roundw
          case rel => exact ⟨k + 1, by omega, rfl, HT'.out he.out, _, rfl⟩
          case measure => simp [Go.RowKit.intOf]; omega
        · have he : Hid (x ≠ y) := Lib.hid (by rw [show _ = _ from E.out] at hb; simpa using hb)
          go_wp2
          go_quiet (fail)
          go_wp2
          go_ret
          exact ⟨ret_bool (by rw [decide_eq_false (HF'.out he.out).out]), _, drewN_drewN _ _ _⟩
      · obtain rfl : k = n1 := by omega
        have he : Hid (l = m) := Lib.hid (by
          have := ht.out; rw [List.take_of_length_le (by rw [N1.out]; omega), List.take_of_length_le (by rw [N2.out]; omega)] at this; exact this)
        go_wp2
        go_ret
        exact ⟨ret_bool (by rw [decide_eq_true he.out]), _, rfl⟩
  · have t1 : (((n1 : Nat) : Int) != (n2 : Int)) = true := by simp; omega
    go_enter Try.func52, Try.ntmps52
    go_wp2
    go_ret
    exact ⟨ret_bool (by rw [decide_eq_false]; intro h; apply hne; rw [← N1.out, ← N2.out, h]), 0, rfl⟩
abbrev sE : ByteArray := ⟨#[]⟩
abbrev s1 : ByteArray := ⟨#[49]⟩
abbrev s01 : ByteArray := ⟨#[48, 49]⟩
abbrev s10 : ByteArray := ⟨#[49, 48]⟩
abbrev s0 : ByteArray := ⟨#[48]⟩
abbrev s100 : ByteArray := ⟨#[49, 48, 48]⟩
abbrev s010 : ByteArray := ⟨#[48, 49, 48]⟩
abbrev s100000 : ByteArray := ⟨#[49, 48, 48, 48, 48, 48]⟩
abbrev s00101 : ByteArray := ⟨#[48, 48, 49, 48, 49]⟩

theorem aw_form (w : World) : Calls Try.prog 23 #[.agg #[.string s1, .string s01]] w fun e w' => e = .returned (.tuple #[.agg #[.string sE, .string s10], .int .i64 0]) ∧ Below w.heap.size w w' := by
  refine (Form_any s1 s01 w (by decide) (by decide)).mono ?_
  rintro e w' ⟨rfl, hb⟩
  exact ⟨by kernel_rfl, hb⟩
theorem aw_wait (w : World) : Calls Try.prog 30 #[.agg #[.string s1, .string s01], .int .i64 3] w fun e w' => e = .returned (.tuple #[.int .i64 1, .int .i64 0]) ∧ Below w.heap.size w w' := by
  refine (Wait_ok s1 s01 3 w (by kernel_rfl) (by decide)).mono ?_
  rintro e w' ⟨rfl, hb⟩
  exact ⟨by kernel_rfl, hb⟩
theorem aw_both (w : World) : Calls Try.prog 25 #[.agg #[.string sE, .string s100], .agg #[.string sE, .string s10]] w fun e w' => e = .returned (.tuple #[.agg #[.string sE, .string s100000], .int .i64 0]) ∧ Below w.heap.size w w' := by
  refine (Both_any sE s100 sE s10 w (by decide) (by decide) (by decide) (by decide)).mono ?_
  rintro e w' ⟨rfl, hb⟩
  exact ⟨by kernel_rfl, hb⟩
theorem aw_sum (w : World) : Calls Try.prog 29 #[.agg #[.string sE, .string s100], .agg #[.string s01, .string s0]] w fun e w' => e = .returned (.tuple #[.agg #[.string sE, .string s010], .int .i64 0]) ∧ Below w.heap.size w w' := by
  refine (Sum_any sE s100 s01 s0 w (by decide) (by decide) (by decide) (by decide)).mono ?_
  rintro e w' ⟨rfl, hb⟩
  exact ⟨by kernel_rfl, hb⟩
theorem aw_slope (w : World) : Calls Try.prog 54 #[.int .i64 2, .int .i64 5, .int .i64 0] w fun e w' => e = .returned (.tuple #[.agg #[.string sE, .string s00101], .int .i64 0]) ∧ Below w.heap.size w w' := by
  refine (Slope_ok 2 5 0 w (by decide) (by decide) (by decide) (by decide)).mono ?_
  rintro e w' ⟨rfl, hb⟩
  exact ⟨by kernel_rfl, hb⟩
theorem aw_gaps (w : World) : Calls Try.prog 36 #[.agg #[.string sE, .string s00101]] w fun e w' => ∃ (g cap : Nat), e = .returned (.tuple #[.slice (some ⟨g, 0, none⟩) 2 cap, .int .i64 0]) ∧ IntsAt w' g 0 [2, 3] ∧ w.heap.size ≤ g ∧ Below w.heap.size w w' := by
  have he : endB s00101 = true := by kernel_rfl
  have hl : gapsL sE s00101 = [2, 3] := by kernel_rfl
  refine (Gaps_ok sE s00101 w (by kernel_rfl) he (nextO_endless _ _ he)).mono ?_
  rintro e w' ⟨v, rfl, hrow, hb⟩
  rw [hl] at hrow
  obtain ⟨h1, h2⟩ := hrow
  rcases h2 with ⟨_, h2⟩ | ⟨g, cap, cur, rfl, hg, hh, hc, hc2, hc3, hc4⟩
  · cases h2
  · refine ⟨g, cap, rfl, ?_, hg, hb⟩
    intro i hi
    rw [Nat.zero_add, cell_of_row _ _ _ _ _ _ hh, ← Array.getElem?_toList]
    have : cur.toList[i]? = (cur.toList.take (2 * 1))[i]? := by
      rw [List.getElem?_take_of_lt (by simpa using hi)]
    rw [this, show List.length [2, 3] * 1 = 2 * 1 from rfl] at *
    rw [hc4]
    match i, hi with
    | 0, _ => rfl
    | 1, _ => rfl
theorem aw_check (w : World) : Calls Try.prog 20 #[.agg #[.string sE, .string sE]] w fun e w' => e = .returned (.int .i64 10) ∧ Below w.heap.size w w' := by
  refine (Check_any sE sE w (by decide) (by decide)).mono ?_
  rintro e w' ⟨rfl, hb⟩
  exact ⟨by kernel_rfl, hb⟩
end Go.Proofs.Ytbhlddfjfcmncaa
