import Derived.Test.YtlehddifcjklgaaBl
import Derived.ProofKit
import Derived.OpenShut
import Derived.Deep.Slices
import Derived.Maps.OwnIn
import Derived.Maps.OwnSet
import Derived.Maps.AppendAt
import Derived.RangeFuncNested
import Derived.RangeFuncBound
import Derived.RangeFuncCalls
import Derived.RangeFuncLeaves
import Derived.Shelf.Abstract
import Derived.Shelf.RegionOpen
import Derived.WalkKit
import Derived.OwnWalkIn
import Derived.TacticsInMore
import Derived.LoopNIn
import Derived.LoopIn
import Derived.WalkMore
import Derived.Sort.QuietThIn
import Derived.Sort.QuietTacIn
import Derived.Sort.BigQuietIn
import Derived.WalkSpells
import Derived.WalkLawsBesides
import Derived.BigQuiet
import Derived.Deep.QuietTactic
import Derived.Lib.Hide
import Derived.Deep.RegionHeld3
import Derived.StillTailTactics
import Derived.Deep.LoopGhost
import Derived.Lib.IndexAny
namespace Go.Proofs.Ytlehddifcjklgaa
section
open Go.RowKit Go.Shelf Go.ChangeShapes Go.WideShapes Go.Deep
/-- the numbers of zs, wherever the slice leads -/
def IntsA (W : World) (a : Option Addr) (zs : List Int) (c : Nat) : Prop := zs = [] ∨ ∃ b o, a = some ⟨b, o, none⟩ ∧ IntsAt W b o zs ∧ zs.length ≤ c
set_option maxRecDepth 100000 in
theorem open_intsl {H : Type} {enc : TypeId × Value → H} {W : World} {base : Nat} {v : Value} {d : DataW H} {p : List MemPlace} (hval : Value.okWide Try.prog W .any base 32 v) (h : DataW.Trod enc Try.prog W 0 (fun _ => true) true 32 v d p) :
    ∃ a c zs, v = .slice a zs.length c ∧ IntsA W a zs c ∧ zs.length ≤ c ∧ (a = none → c = 0) ∧ zs.length ≤ maxLen ∧ ∀ z ∈ zs, InI z := by
  obtain ⟨a0, len0, cap0, rfl⟩ := okWide_slice Try.underlying32 hval
  obtain ⟨fuel, hf⟩ := h
  rcases open_ints Try.underlying32 Try.underlying3 cells3 hf with ⟨hcs, _⟩ | ⟨a, len, cap, zs, hcs, hb, hl, hm, hz, hx, hcell, hwf⟩
  · simp only [Value.cells, List.cons.injEq, Value.slice.injEq, and_true] at hcs
    obtain ⟨rfl, rfl, rfl⟩ := hcs
    exact ⟨none, 0, [], rfl, .inl rfl, by simp, fun _ => rfl, by simp, fun q h => by cases h⟩
  · simp only [Value.cells, List.cons.injEq, Value.slice.injEq, and_true] at hcs
    obtain ⟨rfl, rfl, rfl⟩ := hcs
    have hlz : len0 ≤ zs.length := by rw [hz]; simp; omega
    have hll : (zs.take len0).length = len0 := by rw [List.length_take]; omega
    refine ⟨some a, cap0, zs.take len0, by rw [hll], ?_, by omega, fun h => by simp at h, by omega, fun z hz => inI_wf (hwf z (List.mem_of_mem_take hz))⟩
    by_cases h0 : len0 = 0
    · left; subst h0; rfl
    · right
      obtain ⟨b, off, rfl, hc⟩ := ints_at hcell (by omega)
      refine ⟨b, off, rfl, ⟨.inr (cell_lt (hc 0 (by omega))), fun i h => ?_⟩, by omega⟩
      rw [hc i (by omega)]
      rw [List.getElem_take]
      simp [List.getD, List.getElem?_eq_getElem (show i < zs.length by omega)]
end
open Go.RowKit Go.Shelf
attribute [local go_sem] Oper.semAt_some
def hang1 : List Pt := [(-21, 24), (-17, 24), (-11, 24), (1, 24)]
def hang2 : List Pt := [(-21, 24), (-17, 24), (-11, 24), (2, 24)]
theorem hang1_ok : twrB hang1 = true := by kernel_rfl
theorem hang2_ok : twrB hang2 = true := by kernel_rfl
theorem hang1_s : (standF hang1).2 = true := by kernel_rfl
theorem hang2_s : (standF hang2).2 = false := by kernel_rfl
theorem har_bd : (List.range 13).all (fun n => decide (n = 0) || (decide (1 ≤ (harF n).1) && decide (1 ≤ (harF n).2) && decide ((harF n).1 ≤ 1000000) && decide ((harF n).2 ≤ 1000000))) = true := by kernel_rfl
theorem har_spec {n : Nat} (h1 : 1 ≤ n) (h : n ≤ 12) : 1 ≤ (harF n).1 ∧ 1 ≤ (harF n).2 ∧ (harF n).1 ≤ 1000000 ∧ (harF n).2 ≤ 1000000 := by
  have := List.all_eq_true.1 har_bd n (List.mem_range.2 (by omega))
  have hn : ¬ n = 0 := by omega
  simpa [hn, and_assoc] using this
theorem grow_ok {k : Nat} {L x : Int} {ps : List Pt} (h : ps.length = k ∧ (∀ p ∈ ps, p.2 = L) ∧ (∀ i (h : i < ps.length), Bd (100 + 51 * (i + 1)) ps[i].1)) (hx : Bd (100 + 51 * (k + 1)) x) :
    (ps ++ [(x, L)]).length = k + 1 ∧ (∀ p ∈ ps ++ [(x, L)], p.2 = L) ∧ (∀ i (h : i < (ps ++ [(x, L)]).length), Bd (100 + 51 * (i + 1)) (ps ++ [(x, L)])[i].1) := by
  refine ⟨by simp [h.1], fun p hp => ?_, fun i hi => ?_⟩
  · rcases List.mem_append.1 hp with hp | hp
    · exact h.2.1 p hp
    · rw [List.mem_singleton.1 hp]
  · by_cases hk : i < ps.length
    · rw [List.getElem_append_left hk]; exact h.2.2 i hk
    · rw [List.length_append, List.length_singleton] at hi
      obtain rfl : i = k := by omega
      rw [List.getElem_append_right (by omega)]
      simp only [h.1, Nat.sub_self, List.getElem_cons_zero]
      exact hx
set_option maxRecDepth 100000 in
set_option maxHeartbeats 1000000 in
theorem HullHangs_any (zs : List Int) (a : Option Addr) (c : Nat) (ln : Int) (w : World) (hp : IntsA w a zs c) (hc : zs.length ≤ c) (hn : a = none → c = 0) (hl : zs.length ≤ maxLen) (hz : ∀ z ∈ zs, InI z) (hi : InI ln) :
    Calls Try.prog 16 #[.slice a zs.length c, .int .i64 ln] w fun e w' => e = .returned (.bool true) ∧ Below w.heap.size w w' := by
  obtain ⟨i0, hi58, hz0, hz1, hz2⟩ := info_parts info58
  have hl63 : (zs.length : Int) ≤ 9223372036854775807 := by unfold maxLen at hl; omega
  have HP := Lib.hid hp
  clear hp hz hn
  obtain ⟨L, hL, hL1, hL100⟩ : ∃ L : Int, wrap64 (1 + wrap64 ((IntKind.u64.wrap ln).tmod 100)) = L ∧ 1 ≤ L ∧ L ≤ 100 := by
    have t2 : (IntKind.u64.wrap ln).tmod 100 = ln % 18446744073709551616 % 100 := by rw [u64_wrap]; exact Int.tmod_eq_emod_of_nonneg (by omega)
    refine ⟨_, rfl, ?_, ?_⟩
    · rw [t2, w64_of (x := ln % 18446744073709551616 % 100) (by omega) (by omega), w64_of (by omega) (by omega)]; omega
    · rw [t2, w64_of (x := ln % 18446744073709551616 % 100) (by omega) (by omega), w64_of (by omega) (by omega)]; omega
  have n0 : IntKind.i64.wrap (-L) = -L := i64_of _ (by omega) (by omega)
  go_enter Try.func16, Try.ntmps16
  go_wp2_with fail
  rw [hL]
  clear hL
  go_loopw [5, 6, 7] (fun v i _ wr => ∃ (k : Nat) (ps : List Pt), k ≤ zs.length ∧ k ≤ 12 ∧ i = .int .i64 (k : Int) ∧ Hid (OwnP wr w.heap.size v ps) ∧ Hid (ps.length = k ∧ (∀ p ∈ ps, p.2 = L) ∧ (∀ i (h : i < ps.length), Bd (100 + 51 * (i + 1)) ps[i].1)) ∧ Hid (Below w.heap.size w wr)) (fun _ i _ _ => 12 - (intOf i).toNat)
  case atStart => exact ⟨0, [], by omega, by omega, rfl, Lib.hid (World.ownsRow_nil _ _ _ _), Lib.hid ⟨rfl, (fun p h => by cases h), (fun i h => by simp at h)⟩, Lib.hid (Below.refl _ _)⟩
  case round =>
    obtain ⟨k, ps, hk, hk12, rfl, HR, HF, HB⟩ := hrel
    by_cases hgo : k < zs.length ∧ k < 12
    · obtain ⟨hlt, h12⟩ := hgo
      have hd : decide ((k : Int) < (zs.length : Int)) = true := decide_eq_true (by omega)
      · have hd2 : decide ((k : Int) < 12) = true := decide_eq_true (by omega)
        obtain ⟨b, o, rfl, hpp, hcc⟩ : ∃ b o, a = some ⟨b, o, none⟩ ∧ IntsAt w b o zs ∧ zs.length ≤ c := by
          rcases HP.out with h | h
          · subst h; simp at hlt
          · exact h
        have hx := hpp.at_ k hlt
        have hpl : b < w.heap.size := cell_lt hx
        generalize zs[k] = z at *
        clear hpp
        have hxw := below_at HB.out hpl hx
        clear hx
        have z1 : ¬ (L + 1 = 0) := by omega
        have z2 : ¬ (IntKind.u64.wrap (L + 1) = 0) := by rw [u64_wrap]; omega
        obtain ⟨t, ht, ht0, htL⟩ : ∃ t : Int, wrap64 ((IntKind.u64.wrap z).tmod (L + 1)) = t ∧ 0 ≤ t ∧ t ≤ L := by
          have e1 : (IntKind.u64.wrap z).tmod (L + 1) = IntKind.u64.wrap z % (L + 1) := Int.tmod_eq_emod_of_nonneg (by rw [u64_wrap]; omega)
          have h1 := Int.emod_nonneg (IntKind.u64.wrap z) (show L + 1 ≠ 0 by omega)
          have h2 := Int.emod_lt_of_pos (IntKind.u64.wrap z) (show 0 < L + 1 by omega)
          exact ⟨_, by rw [e1, w64_of (by omega) (by omega)], h1, by omega⟩
        by_cases hk0 : k = 0
        · subst hk0
          rw [Nat.add_zero] at hxw
          have HBM : Bd (100 + 51 * (((0 : Nat)) : Int)) (-L) := by unfold Bd; omega
          obtain ⟨lo, hi'⟩ : -712 ≤ -L ∧ -L ≤ 712 := by have h := HBM; unfold Bd at h; omega
          have e1 : wrap64 (-L + t) = -L + t := w64_of (by omega) (by omega)
          have e2 : wrap64 (-L + t - L / 2) = -L + t - L / 2 := w64_of (by omega) (by omega)
          have HNX := Lib.hid (grow_ok HF.out (x := -L + t - L / 2) (by have h := HBM; unfold Bd at h ⊢; omega))
          have BBL := Lib.hid HBM
          clear HBM
          go_wp2_with (at_builtin; refine wpList_append_own_at _ rfl _ _ 22 rfl w.heap.size 58 i0 (.agg #[.int .i64 0, .int .i64 0]) 2 16 Try.underlying22 hi58 hz0 hz1 hz2 rfl (by decide) _ _ _ rfl (World.ownsRow.alloc HR.out _) _ 1 1 [.int .i64 (-L + t - L / 2), .int .i64 L] rfl rfl (cell_two_at _ _ _ _ _ rfl) (by simp [Value.oneCell']) (by rw [HF.out.1]; unfold maxLen; omega) (by rw [HF.out.1]; omega) (Nat.le_trans HB.out.size (by simp)) ?_; intro v' w2 hown' hgrow hnil hat; have HR2 := Lib.hid hown'; have B2 := Lib.hid (own_belowP HR.out rfl HB.out (Below.al HB.out (Nat.le_refl _) _) hgrow); clear hown' hgrow hnil hat)
          refine ⟨⟨0 + 1, ps ++ [(-L + t - L / 2, L)], by omega, by omega, by simp, Lib.hid (by have h := HR2.out; unfold OwnP; rw [flat_append, List.length_append]; exact h), HNX, B2⟩, ?_⟩
          simp [intOf]
        · have d5 : decide (0 < k) = true := decide_eq_true (by omega)
          have e5 : IntKind.i64.wrap ((k : Int) - 1) = ((k - 1 : Nat) : Int) := by rw [i64_of _ (by omega) (by omega)]; omega
          have e6 : (k : Int) - 1 = ((k - 1 : Nat) : Int) := by omega
          obtain ⟨a2, c2, rfl, hopen⟩ := OwnP.open HR.out
          obtain ⟨g, rfl, hg0, hpt⟩ : ∃ g, a2 = some ⟨g, 0, none⟩ ∧ w.heap.size ≤ g ∧ PtsAt wr g 0 ps := by
            rcases hopen with ⟨_, _, h⟩ | ⟨g, h1, h2, h3, _⟩
            · have := HF.out.1; subst h; simp at this; omega
            · exact ⟨g, h2, h1, h3⟩
          have hk1 : k - 1 < ps.length := by have := HF.out.1; omega
          have xm := hpt.x (k - 1) hk1
          rw [Nat.zero_add] at xm
          have HBM0 := HF.out.2.2 (k - 1) hk1
          obtain ⟨m1, hm1⟩ : ∃ m1, ps[k - 1].1 = m1 := ⟨_, rfl⟩
          rw [hm1] at xm HBM0
          have HBM : Bd (100 + 51 * (k : Int)) m1 := by
            have h := HBM0
            unfold Bd at h ⊢
            omega
          have hpl : (ps.length : Int) = (k : Int) := by rw [HF.out.1]
          have hpl2 := HF.out.1
          clear hm1 HBM0 hopen hpt
          generalize hkk : k - 1 = kk at *
          have HKK := Lib.hid hkk
          clear hkk hk0
          rw [hpl2]
          clear hpl hpl2
          rw [HF.out.1] at HR
          obtain ⟨lo, hi'⟩ : -712 ≤ m1 ∧ m1 ≤ 712 := by have h := HBM; unfold Bd at h; omega
          have e1 : wrap64 (m1 + t) = m1 + t := w64_of (by omega) (by omega)
          have e2 : wrap64 (m1 + t - L / 2) = m1 + t - L / 2 := w64_of (by omega) (by omega)
          have HNX := Lib.hid (grow_ok HF.out (x := m1 + t - L / 2) (by have h := HBM; unfold Bd at h ⊢; omega))
          have BBL := Lib.hid HBM
          clear HBM
          go_wp2_with (at_builtin; refine wpList_append_own_at _ rfl _ _ 22 rfl w.heap.size 58 i0 (.agg #[.int .i64 0, .int .i64 0]) 2 16 Try.underlying22 hi58 hz0 hz1 hz2 rfl (by decide) _ _ _ rfl (World.ownsRow.alloc HR.out _) _ 1 1 [.int .i64 (m1 + t - L / 2), .int .i64 L] rfl rfl (cell_two_at _ _ _ _ _ rfl) (by simp [Value.oneCell']) (by rw [HF.out.1]; unfold maxLen; omega) (by rw [HF.out.1]; omega) (Nat.le_trans HB.out.size (by simp)) ?_; intro v' w2 hown' hgrow hnil hat; have HR2 := Lib.hid hown'; have B2 := Lib.hid (own_belowP HR.out rfl HB.out (Below.al HB.out (Nat.le_refl _) _) hgrow); clear hown' hgrow hnil hat)
          refine ⟨⟨k + 1, ps ++ [(m1 + t - L / 2, L)], by omega, by omega, by simp, Lib.hid (by have h := HR2.out; unfold OwnP; rw [flat_append, List.length_append]; exact h), HNX, B2⟩, ?_⟩
          simp [intOf]; omega
    · have hdd : (decide ((k : Int) < (zs.length : Int)) = false ∧ decide (k < zs.length) = false) ∨ ((decide ((k : Int) < (zs.length : Int)) = true ∧ decide (k < zs.length) = true) ∧ decide ((k : Int) < 12) = false ∧ decide (k < 12) = false) := by
        by_cases h : k < zs.length
        · exact .inr ⟨⟨decide_eq_true (by omega), decide_eq_true h⟩, decide_eq_false (by omega), decide_eq_false (by omega)⟩
        · exact .inl ⟨decide_eq_false (by omega), decide_eq_false h⟩
      clear hgo
      obtain ⟨a2, c2, rfl, hopen⟩ := OwnP.open HR.out
      by_cases hk0 : k = 0
      · have hp0 : ps.length = 0 := by rw [HF.out.1]; exact hk0
        rw [hp0]
        obtain rfl : zs = [] := by
          have h : ¬ k < zs.length := fun h => by
            rcases hdd with ⟨_, h2⟩ | ⟨_, _, h2⟩
            · exact (of_decide_eq_false h2) h
            · have := of_decide_eq_false h2; omega
          exact List.eq_nil_of_length_eq_zero (by omega)
        subst hk0
        clear hopen hp0 HR hdd
        · skip
          go_wp2_with fail
          refine (awake_any _).mono ?_
          rintro e w8 ⟨rfl, hb⟩
          have T8 := Lib.hid (Below.andThen HB.out hb (Nat.le_refl _))
          clear hb
          go_wp2_with fail
          go_ret
          exact ⟨rfl, T8.out⟩
      · have d3 : ((k : Int) == 0) = false := by simpa using hk0
        obtain ⟨g, rfl, hg0, hpt, hcc⟩ : ∃ g, a2 = some ⟨g, 0, none⟩ ∧ w.heap.size ≤ g ∧ PtsAt wr g 0 ps ∧ ps.length ≤ c2 := by
          rcases hopen with ⟨_, _, h⟩ | ⟨g, h1, h2, h3, h4⟩
          · have := HF.out.1; subst h; simp at this; omega
          · exact ⟨g, h2, h1, h3, h4⟩
        have HT := Lib.hid (show twrB ps = true from twr_of (by rw [HF.out.1]; omega) (by rw [HF.out.1]; omega) (fun i hi => by
          have h := HF.out.2.2 i hi
          have h2 := HF.out.2.1 _ (List.getElem_mem hi)
          have hik : i < 12 := by have := HF.out.1; omega
          refine ⟨?_, by omega, by omega⟩
          unfold Bd at h ⊢
          omega))
        have HP1 := Lib.hid hpt
        have HCC := Lib.hid hcc
        have HLE := Lib.hid (fun h => hangs (L := L) (by omega) (by rw [HF.out.1]; omega) (by rw [HF.out.1]; omega) HF.out.2.1 h)
        have HSP := har_spec (n := k) (by omega) (by omega)
        have HRB := rch_bd (ps := ps) (fun i hi => twr_bd HT.out hi) (by rw [HF.out.1]; omega) ps.length (Nat.le_refl _)
        have HK := Lib.hid HF.out.1
        have hHar := Harmonic_any k wr (by omega) (by omega)
        have k1 : 1 ≤ k := by omega
        obtain ⟨h0, h1, hh⟩ : ∃ h0 h1, harF k = (h0, h1) := ⟨_, _, rfl⟩
        rw [hh] at hHar HSP
        rw [HF.out.1, hh] at HLE
        rw [HF.out.1] at HRB
        dsimp only at hHar HLE HSP
        rw [HF.out.1]
        obtain ⟨R, hR⟩ : ∃ R, rch ps k = R := ⟨_, rfl⟩
        obtain ⟨S1, S2, hS⟩ : ∃ S1 S2, standF ps = (S1, S2) := ⟨_, _, rfl⟩
        rw [hR, hS] at HLE
        rw [hR] at HRB
        dsimp only at HLE
        have HHar := Lib.hid hHar
        have HRS := Lib.hid (And.intro hR hS)
        obtain ⟨s1, s2, s3, s4⟩ := HSP
        obtain ⟨r1, r2'⟩ : -2000 ≤ R ∧ R ≤ 2000 := HRB
        have d1 : decide (h0 < 1) = false := decide_eq_false (by omega)
        have d2 : decide (h1 < 1) = false := decide_eq_false (by omega)
        have d4 : decide (1000000 < h0) = false := decide_eq_false (by omega)
        have d5 : decide (1000000 < h1) = false := decide_eq_false (by omega)
        have d6 : decide (R < -2000) = false := decide_eq_false (by omega)
        have d7 : decide (2000 < R) = false := decide_eq_false (by omega)
        have b2 : Bd 4000 (2 * R) := by unfold Bd; omega
        have b3 : Bd 1000000 h1 := by unfold Bd; omega
        have b4 : Bd 1000000 h0 := by unfold Bd; omega
        have b5 : Bd 100 L := by unfold Bd; omega
        have w1 : IntKind.i64.wrap (2 * R) = 2 * R := i64_bd b2 (by omega)
        have w2 : IntKind.i64.wrap (2 * R * h1) = 2 * R * h1 := i64_bd (b2.mul b3) (by omega)
        have w3 : IntKind.i64.wrap (L * h0) = L * h0 := i64_bd (b5.mul b4) (by omega)
        have w5 : wrap64 (2 * R * h1) = 2 * R * h1 := (IntWalk.i64_left _).symm.trans w2
        have w6 : wrap64 (L * h0) = L * h0 := (IntWalk.i64_left _).symm.trans w3
        have HLD : S2 = true → decide (L * h0 < 2 * R * h1) = false := fun h => decide_eq_false (by have := HLE.out h; omega)
        clear b2 b3 b4 b5 HLE
        clear hopen HR hpt hcc hHar hh hR hS HF hk0
        rcases hdd with ⟨dd, dg⟩ | ⟨⟨dd, dg⟩, de, df⟩
        all_goals
          go_wp2_with fail
          refine HHar.out.mono ?_
          rintro e w1 ⟨rfl, hb⟩
          have BA := Below.al (Below.refl w1.heap.size w1) (Nat.le_refl _) (.cells #[.int .i64 h0, .int .i64 h1] 39)
          have BW := Below.andThen hb BA (Nat.le_refl _)
          have T2 := Lib.hid (Below.andThen HB.out BW (Nat.le_refl _))
          have P2 := Lib.hid (HP1.out.grow BW)
          have r2 := Lib.hid (show Row (w1.alloc (.cells #[.int .i64 h0, .int .i64 h1] 39)) w1.heap.size 39 [.int .i64 h0, .int .i64 h1] from Row.new _ _ _)
          clear hb BA BW HHar HB
          go_wp2_with fail
          generalize w1.alloc (.cells #[.int .i64 h0, .int .i64 h1] 39) = V2 at *
          have HS := Stands_any ps g c2 V2 P2.out HCC.out HT.out
          rw [HK.out, HRS.out.2] at HS
          dsimp only at HS
          refine HS.mono ?_
          rintro e w3 ⟨rfl, hb⟩
          have T3 := Lib.hid (Below.andThen T2.out hb (Nat.le_refl _))
          have P3 := Lib.hid (P2.out.grow hb)
          have r3 := Lib.hid (r2.out.below hb r2.out.lt)
          clear hb HS T2 P2 r2
          go_wp2_with fail
          have HR := Reach_any ps g c2 w3 P3.out HCC.out HT.out
          rw [HK.out, HRS.out.1] at HR
          refine HR.mono ?_
          rintro e w4 ⟨rfl, hb⟩
          have T4 := Lib.hid (Below.andThen T3.out hb (Nat.le_refl _))
          have r4 := Lib.hid (r3.out.below hb r3.out.lt)
          clear hb HR T3 P3 r3
          obtain ⟨z0, z1, _, _⟩ := two_cells r4.out
          have PH1 := Lib.hid (Stands_any hang1 w4.heap.size 4 _ (ptsAt_row (Row.new w4 58 (flat hang1))) (by decide) hang1_ok)
          have TA := Lib.hid (Below.al T4.out (Nat.le_refl _) (.cells #[.int .i64 (-21), .int .i64 24, .int .i64 (-17), .int .i64 24, .int .i64 (-11), .int .i64 24, .int .i64 1, .int .i64 24] 58))
          cases S2
          case' true => have d8 := HLD rfl
          all_goals
            clear HLD
            go_wp2_with fail
            refine PH1.out.mono ?_
            rintro e w5 ⟨rfl, hb⟩
            have T5 := Lib.hid (Below.andThen TA.out hb (Nat.le_refl _))
            have PH2 := Lib.hid (Stands_any hang2 w5.heap.size 4 _ (ptsAt_row (Row.new w5 58 (flat hang2))) (by decide) hang2_ok)
            have TB := Lib.hid (Below.al T5.out (Nat.le_refl _) (.cells #[.int .i64 (-21), .int .i64 24, .int .i64 (-17), .int .i64 24, .int .i64 (-11), .int .i64 24, .int .i64 2, .int .i64 24] 58))
            rw [hang1_s]
            clear hb PH1 TA T4 z0 z1
            go_wp2_with fail
            refine PH2.out.mono ?_
            rintro e w6 ⟨rfl, hb⟩
            have T6 := Lib.hid (Below.andThen TB.out hb (Nat.le_refl _))
            rw [hang2_s]
            clear hb PH2 TB T5
            go_wp2_with fail
            refine (awake_any _).mono ?_
            rintro e w8 ⟨rfl, hb⟩
            have T8 := Lib.hid (Below.andThen T6.out hb (Nat.le_refl _))
            clear hb
            go_wp2_with fail
            go_ret
            exact ⟨rfl, T8.out⟩
end Go.Proofs.Ytlehddifcjklgaa
