import Derived.Test.YtlehddifcjklgaaCe
import Derived.Maps.OwnIn
import Derived.Maps.OwnSet
import Derived.Maps.AppendAt
import Derived.RangeFuncNested
import Derived.RangeFuncBound
import Derived.RangeFuncCalls
import Derived.RangeFuncLeaves
import Derived.Shelf.Abstract
import Derived.Shelf.RegionOpen
import Derived.WalkKit
import Derived.OwnWalkIn
import Derived.TacticsInMore
import Derived.LoopNIn
import Derived.LoopIn
import Derived.WalkMore
import Derived.Sort.QuietThIn
import Derived.Sort.QuietTacIn
import Derived.Sort.BigQuietIn
import Derived.WalkSpells
import Derived.WalkLawsBesides
import Derived.BigQuiet
import Derived.Deep.QuietTactic
import Derived.Lib.Hide
import Derived.Deep.RegionHeld3
import Derived.StillTailTactics
import Derived.Deep.LoopGhost
import Derived.Lib.IndexAny
namespace Go.Proofs.Ytlehddifcjklgaa
open Go.RowKit Go.Shelf
attribute [local go_sem] Oper.semAt_some
set_option maxRecDepth 100000 in
set_option maxHeartbeats 2000000 in
theorem tame_any (ps : List Pt) (a : Option Addr) (c : Nat) (fr : Int) (w : World) (hp : PtsA w a ps c) (hl : ps.length ≤ maxLen) (hz : ∀ q ∈ ps, InI q.1 ∧ InI q.2) :
    Calls Try.prog 31 #[.slice a ps.length c, .int .i64 fr] w fun e w' => ∃ v hs, e = .returned v ∧ OwnP w' w.heap.size v hs ∧ chk hs = true ∧ Below w.heap.size w w' := by
  obtain ⟨i0, hi, hz0, hz1, hz2⟩ := info_parts info58
  have hP := points_any ps a c w hp hl hz
  clear hp hl hz
  go_enter Try.func31, Try.ntmps31
  go_wp2_with fail
  refine hP.mono ?_
  rintro e w1 ⟨v, qs, rfl, ho, ⟨h3, h12, hin⟩, hb⟩
  have ha : areP qs = true := by
    unfold areP; simp only [Bool.and_eq_true, decide_eq_true_eq, List.all_eq_true]; exact ⟨⟨h3, h12⟩, hin⟩
  obtain ⟨a2, c2, rfl, hop⟩ := ho.open
  obtain ⟨g, rfl, hg0, hpt, hcc⟩ : ∃ g, a2 = some ⟨g, 0, none⟩ ∧ w.heap.size ≤ g ∧ PtsAt w1 g 0 qs ∧ qs.length ≤ c2 := by
    rcases hop with ⟨_, _, h⟩ | ⟨g, h1, h2, h3, h4⟩
    · subst h; simp at h3
    · exact ⟨g, h2, h1, h3, h4⟩
  have T1 := Lib.hid hb
  have HA := Lib.hid (rAround_any qs g c2 w1 hpt ha)
  have HIN := Lib.hid hin
  clear hP ho hb hop hpt hin ha
  go_wp2_with fail
  refine HA.out.mono ?_
  rintro e w2 ⟨v, os, rfl, ho, hcyc, hol, hb⟩
  have T2 := Lib.hid (Below.andThen T1.out hb (Nat.le_refl _))
  obtain ⟨a3, c3, rfl, hop⟩ := ho.open
  clear HA
  by_cases ho3 : 3 ≤ os.length
  · have q1 : decide (3 ≤ os.length) = true := decide_eq_true ho3
    have CY := Lib.hid (hcyc ho3)
    obtain ⟨h, rfl, hh0, hpt, hcc3⟩ : ∃ g, a3 = some ⟨g, 0, none⟩ ∧ w1.heap.size ≤ g ∧ PtsAt w2 g 0 os ∧ os.length ≤ c3 := by
      rcases hop with ⟨_, _, h⟩ | ⟨g, h1, h2, h3, h4⟩
      · subst h; simp at ho3
      · exact ⟨g, h2, h1, h3, h4⟩
    have HPT := Lib.hid hpt
    obtain ⟨k, hk, hk1, hk2⟩ : ∃ k : Nat, k < os.length ∧ wrap64 ((IntKind.u64.wrap fr).tmod (os.length : Int)) = (k : Int) ∧ IntKind.i64.wrap ((IntKind.u64.wrap fr).tmod (os.length : Int)) = (k : Int) := by
      have e2 : (IntKind.u64.wrap fr).tmod (os.length : Int) = IntKind.u64.wrap fr % (os.length : Int) := Int.tmod_eq_emod_of_nonneg (by rw [u64_wrap]; omega)
      have h1 := Int.emod_nonneg (IntKind.u64.wrap fr) (show (os.length : Int) ≠ 0 by omega)
      have h2 := Int.emod_lt_of_pos (IntKind.u64.wrap fr) (show (0 : Int) < os.length by omega)
      refine ⟨(IntKind.u64.wrap fr % (os.length : Int)).toNat, by omega, ?_, ?_⟩
      · rw [e2, w64_of (by omega) (by omega)]; omega
      · rw [e2, i64_of _ (by omega) (by omega)]; omega
    have s1 : ∀ w, (Instr.slice 22 (.slice (some ⟨h, 0, none⟩) os.length c3) (some (.int .i64 (k : Int))) none none).run Try.prog w = .ok (.slice (some ⟨h, k * 2, none⟩) (os.length - k) (c3 - k)) w := fun w => slice_from2 h _ c3 k hk hcc3 w
    have s2 : ∀ w, (Instr.slice 22 (.slice (some ⟨h, 0, none⟩) os.length c3) none (some (.int .i64 (k : Int))) none).run Try.prog w = .ok (.slice (some ⟨h, 0, none⟩) k c3) w := fun w => slice_upto _ _ c3 k (by omega) w
    have hn1 := Lib.hid (show ∀ j u, (flat (os.drop k))[j]? = some u → w2.cell? ((⟨h, k * 2, none⟩ : Addr).add j) = some u by
      have := pts_cells (hpt.drop k) (os.drop k).length
      rwa [List.take_length] at this)
    have hn2 := Lib.hid (fun W (hW : Below w2.heap.size w2 W) => pts_cells (hpt.grow hW) k)
    have q2 : ¬ ((os.length : Int) = 0) := by omega
    have hl12 : os.length ≤ 12 := by omega
    have HC := Lib.hid (show chk (os.drop k ++ os.take k) = true from (CY.out.rot (by omega) (by omega)).chk (by rw [rot_len (by omega)]; omega) (by rw [rot_len (by omega)]; omega) HIN.out)
    have L1 := Lib.hid (show (os.drop k).length = os.length - k from List.length_drop ..)
    have L2 := Lib.hid (show (os.take k).length = k by rw [List.length_take]; omega)
    clear hcyc hop hpt ho CY
    go_wp2_with (first | (at_builtin; refine wpList_append_own_at _ rfl _ _ 22 rfl w.heap.size 58 i0 (.agg #[.int .i64 0, .int .i64 0]) 2 16 Try.underlying22 hi hz0 hz1 hz2 rfl (by decide) (.slice none 0 0) _ _ rfl (World.ownsRow_nil _ _ _ _) ⟨h, k * 2, none⟩ (os.length - k) (c3 - k) (flat (os.drop k)) rfl (by rw [flat_length, L1.out]) hn1.out (flat_one _) (by unfold maxLen; omega) (by omega) T2.out.size ?_; intro v1 w3 hown' hgrow hnil hat; have HR1 := Lib.hid hown'; have BG : Hid (Below w2.heap.size w2 w3) := Lib.hid ((Below.refl w2.heap.size w2).grown (show w2.grownBy w3 none from hgrow) (Nat.le_refl _) (fun r e => by cases e)); clear hown' hgrow hnil hat) | (at_builtin; refine wpList_append_own_at _ rfl _ _ 22 rfl w.heap.size 58 i0 (.agg #[.int .i64 0, .int .i64 0]) 2 16 Try.underlying22 hi hz0 hz1 hz2 rfl (by decide) _ _ _ rfl HR1.out ⟨h, 0, none⟩ k c3 (flat (os.take k)) rfl (by rw [flat_length, L2.out]) (hn2.out _ BG.out) (flat_one _) (by unfold maxLen; omega) (by omega) (Nat.le_trans T2.out.size BG.out.size) ?_; intro v2 w4 hown' hgrow hnil hat; have HR2 := Lib.hid hown'; have B4 := Lib.hid (own_belowP HR1.out rfl (Below.andThen T2.out BG.out (Nat.le_refl _)) (Below.andThen T2.out BG.out (Nat.le_refl _)) hgrow); clear hown' hgrow hnil hat))
    go_ret
    refine ⟨_, os.drop k ++ os.take k, rfl, ?_, HC.out, B4.out⟩
    have h := HR2.out
    rw [List.nil_append, Nat.zero_add] at h
    unfold OwnP
    rw [flat_append, List.length_append, L1.out, L2.out]
    exact h
  · have q1 : decide (3 ≤ os.length) = false := decide_eq_false ho3
    clear hcyc hop ho
    go_wp2_with fail
    go_ret
    refine ⟨_, thinP, rfl, ?_, aw_chk2, Below.al T2.out (Nat.le_refl _) _⟩
    exact ⟨rfl, .inr ⟨_, 3, _, rfl, T2.out.size, (Row.new w2 58 (flat thinP)), Nat.le_refl _, by unfold maxLen; omega, rfl, rfl⟩⟩
end Go.Proofs.Ytlehddifcjklgaa
