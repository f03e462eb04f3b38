import Derived.Test.YtlamppplnojpbaaKk
import Derived.Laws.AppendOwn
import Derived.ChangeKeysEq
import Derived.Maps.RangeWalk
import Derived.Maps.OwnIn
import Derived.Maps.AppendAt
import Derived.RangeFuncNested
import Derived.RangeFuncBound
import Derived.RangeFuncCalls
import Derived.RangeFuncLeaves
import Derived.Shelf.Abstract
import Derived.Shelf.RegionOpen
import Derived.WalkKit
import Derived.WalkMore
import Derived.OwnWalkIn
import Derived.TacticsInMore
import Derived.LoopNIn
import Derived.LoopIn
import Derived.WalkSpells
import Derived.WalkLawsBesides
import Derived.BigQuiet
import Derived.Deep.QuietTactic
import Derived.Lib.Hide
import Derived.Deep.RegionHeld3
import Derived.StillTailTactics
import Derived.Deep.LoopGhost
import Derived.Maps.OwnSet
import Derived.Lib.IndexAny
import Derived.Sort.QuietThIn
import Derived.Sort.QuietTacIn
import Derived.Sort.BigQuietIn
namespace Go.Proofs.Ytlamppplnojpbaa
open Go.RowKit Go.Shelf
attribute [local go_sem] Oper.semAt_some
/-- what 'tame' makes of a number -/
def tamA (x : Int) : Int := 1 + x % 18446744073709551616 % 12
theorem u64_wrap (x : Int) : IntKind.u64.wrap x = x % 18446744073709551616 := by
  unfold IntKind.wrap
  simp [IntKind.signed, IntKind.bits]
theorem tamA_raw (x : Int) : wrap64 (1 + wrap64 ((IntKind.u64.wrap x).tmod 12)) = tamA x := by
  have t1 : (IntKind.u64.wrap x).tmod 12 = x % 18446744073709551616 % 12 := by rw [u64_wrap]; exact Int.tmod_eq_emod_of_nonneg (by omega)
  unfold tamA
  rw [t1]
  unfold wrap64
  omega
theorem tamA_bd (x : Int) : 1 ≤ tamA x ∧ tamA x ≤ 12 := by unfold tamA; omega
def tamL (zs : List Int) (k : Nat) : List Int := (zs.take k).map tamA
theorem tamL_succ (zs : List Int) (k : Nat) (h : k < zs.length) : tamL zs (k + 1) = tamL zs k ++ [tamA zs[k]] := by
  unfold tamL
  rw [List.take_add_one, List.map_append, List.getElem?_eq_getElem h]; rfl
theorem tamL_len (zs : List Int) (k : Nat) (h : k ≤ zs.length) : (tamL zs k).length = k := by
  unfold tamL; rw [List.length_map, List.length_take]; omega
/-- jugs of any numbers -/
def tameF (zs : List Int) (most : Nat) : List Int := if tamL zs (min zs.length most) = [] then [3] else tamL zs (min zs.length most)
theorem tameF_jugs (zs : List Int) (most : Nat) (hm : most ≤ 4) : jugsB (tameF zs most) = true := by
  unfold tameF
  split
  · decide
  · rename_i hne
    have hl := tamL_len zs (min zs.length most) (by omega)
    have h1 : 1 ≤ (tamL zs (min zs.length most)).length := List.length_pos_iff.2 hne
    unfold jugsB
    simp only [Bool.and_eq_true, decide_eq_true_eq, List.all_eq_true]
    refine ⟨⟨h1, by omega⟩, fun z hz => ?_⟩
    unfold tamL at hz
    obtain ⟨x, _, rfl⟩ := List.mem_map.1 hz
    have := tamA_bd x
    unfold sizeB
    simp only [Bool.and_eq_true, decide_eq_true_eq]
    omega
theorem sli_own {W : World} {n₀ k : Nat} {zs : List Int} {v : Value} (h : W.ownsRow n₀ 3 1 v k (zs.map encI)) : SlI W v zs := by
  have hk : k = zs.length := by have := h.1; rw [List.length_map] at this; omega
  by_cases hz : zs = []
  · subst hz
    have hk0 : k = 0 := by simpa using hk
    rcases h.2 with ⟨rfl, _⟩ | ⟨g, cap, cur, rfl, _, _, hc, _⟩
    · exact ⟨none, 0, rfl, Nat.le_refl _, .inl rfl⟩
    · exact ⟨_, cap, by rw [hk0]; rfl, by simp, .inl rfl⟩
  · obtain ⟨g, cap, rfl, hg, hi⟩ := own_ints h hz
    have hc : zs.length ≤ cap := by
      rcases h.2 with ⟨e, _⟩ | ⟨g', cap', cur, e, _, _, hc, _⟩
      · cases e
      · cases e; omega
    exact ⟨_, cap, rfl, hc, .inr ⟨g, 0, rfl, hg, hi⟩⟩
theorem own_one (W : World) (x : Int) (n₀ : Nat) (h : n₀ ≤ W.heap.size) : (W.alloc (.cells #[.int .i64 x] 3)).ownsRow n₀ 3 1 (.slice (some ⟨W.heap.size, 0, none⟩) 1 1) 1 [.int .i64 x] :=
  ⟨rfl, .inr ⟨W.heap.size, 1, #[.int .i64 x], rfl, h, World.alloc_heap_new W _, Nat.le_refl _, by decide, rfl, rfl⟩⟩
set_option maxRecDepth 100000 in
set_option maxHeartbeats 1000000 in
theorem tame_any (zs : List Int) (v : Value) (most : Nat) (hm : most ≤ 100) (w : World) (hv : SlI w v zs) (hl : zs.length ≤ 9223372036854775807) :
    Calls Try.prog 31 #[v, .int .i64 (most : Int)] w fun e w' => ∃ s, e = .returned s ∧ w'.ownsRow w.heap.size 3 1 s (tameF zs most).length ((tameF zs most).map encI) ∧ Below w.heap.size w w' := by
  obtain ⟨i0, hi, hz0, hz1, hz2⟩ := info_parts info3
  obtain ⟨a, c, rfl, hc, hs⟩ := hv
  have HS := Lib.hid hs
  clear hs
  go_enter Try.func31, Try.ntmps31
  go_wp2_with fail
  go_loopw [5, 6] (fun lv iv wr => ∃ k : Nat, k ≤ min zs.length most ∧ iv = .int .i64 (k : Int) ∧ Hid (wr.ownsRow w.heap.size 3 1 lv (tamL zs k).length ((tamL zs k).map encI) ∧ Below w.heap.size w wr)) (fun _ iv _ => min zs.length most - (intOf iv).toNat)
  case atStart => exact ⟨0, by omega, rfl, Lib.hid ⟨World.ownsRow_nil _ _ _ _, Below.refl _ _⟩⟩
  case round =>
    obtain ⟨k, hk, rfl, HO⟩ := hrel
    have kw : IntKind.i64.wrap ((k : Int) + 1) = ((k + 1 : Nat) : Int) := by rw [i64_of _ (by omega) (by omega)]; omega
    by_cases h12 : k < zs.length ∧ k < most
    · obtain ⟨h1, h2⟩ := h12
      have hd1 : decide ((k : Int) < (zs.length : Int)) = true := decide_eq_true (by omega)
      have hd2 : decide ((k : Int) < (most : Int)) = true := decide_eq_true (by omega)
      obtain ⟨b, o, rfl, hbl, hat⟩ : ∃ b o, a = some ⟨b, o, none⟩ ∧ b < w.heap.size ∧ IntsAt w b o zs := HS.out.resolve_left (fun e => by rw [e] at h1; simp at h1)
      have ck := (hat.below HO.out.2 hbl).at_ k h1
      have hsn := tamL_succ zs k h1
      have hll := tamL_len zs k (by omega)
      have hraw := tamA_raw zs[k]
      generalize tamA zs[k] = tz at *
      have HSN := Lib.hid hsn
      have HH := Lib.hid hat
      generalize zs[k] = z at *
      generalize tamL zs k = LL at *
      clear hsn hat
      go_wp2_with (at_builtin; refine wpList_append_own_at _ rfl _ _ 22 rfl w.heap.size 3 i0 (.int .i64 0) 1 8 Try.underlying22 hi hz0 hz1 hz2 rfl (by decide) _ _ _ rfl (HO.out.1.alloc _) _ 1 1 [encI tz] rfl rfl (cell_one_at _ _ _ _ (by simp)) (by simp [Value.oneCell', encI]) (by unfold maxLen; omega) (by omega) (Nat.le_trans HO.out.2.size (by simp)) ?_; intro v' w2' hown' hgrow hnil hat'; have HR2 := Lib.hid hown'; have HB2 := Lib.hid (own_below HO.out.1 HO.out.2 hgrow); clear hown' hgrow hnil hat')
      go_roundw
      case rel => exact ⟨k + 1, by omega, by simp, by rw [HSN.out]; exact Lib.hid ⟨by simpa using HR2.out, HB2.out⟩⟩
      case measure => simp [intOf]; omega
    · have hkm : k = min zs.length most := by omega
      have fin : ∀ (v : Value) (W : World), W.ownsRow w.heap.size 3 1 v (tamL zs k).length ((tamL zs k).map encI) → k ≠ 0 → W.ownsRow w.heap.size 3 1 v (tameF zs most).length ((tameF zs most).map encI) := fun v W h hk0 => by
        unfold tameF
        rw [← hkm, if_neg (fun e => hk0 (by have := tamL_len zs k (by omega); rw [e] at this; simpa using this.symm))]
        exact h
      have fin0 : k = 0 → tameF zs most = [3] := fun hk0 => by
        unfold tameF
        rw [← hkm, hk0, if_pos (by simp [tamL])]
      have FIN := Lib.hid fin
      have FIN0 := Lib.hid fin0
      have LLN := Lib.hid (tamL_len zs k (by omega))
      have hlen : ∃ aa cc, u5 = .slice aa k cc := by
        rcases HO.out.1.2 with ⟨h, h0⟩ | ⟨g, cap, cur, h, _⟩
        · exact ⟨none, 0, by rw [h, LLN.out.symm, h0]⟩
        · exact ⟨_, cap, by rw [h, LLN.out]⟩
      obtain ⟨aa, cc, rfl⟩ := hlen
      have hkz := Lib.hid hkm
      clear fin fin0
      by_cases hk0 : k = 0
      · have HK0 := Lib.hid hk0
        have hd0 : ((k : Int) == 0) = true := by simp [hk0]
        have hd0' : decide ((k : Int) = 0) = true := by simp [hk0]
        rcases Nat.lt_or_ge k zs.length with h1 | h1
        · have hd1 : decide ((k : Int) < (zs.length : Int)) = true := decide_eq_true (by omega)
          have hd2 : decide ((k : Int) < (most : Int)) = false := decide_eq_false (by omega)
          have hd2n : decide (k < most) = false := decide_eq_false (by omega)
          have hd1n : decide (k < zs.length) = true := decide_eq_true (by omega)
          clear hk0 hkm h12
          go_wp2_with fail
          go_ret
          refine ⟨_, rfl, ?_, Below.al HO.out.2 (Nat.le_refl _) _⟩
          rw [FIN0.out HK0.out]
          exact own_one wr 3 w.heap.size HO.out.2.size
        · have hd1 : decide ((k : Int) < (zs.length : Int)) = false := decide_eq_false (by omega)
          clear hk0 hkm h12
          go_wp2_with fail
          go_ret
          refine ⟨_, rfl, ?_, Below.al HO.out.2 (Nat.le_refl _) _⟩
          rw [FIN0.out HK0.out]
          exact own_one wr 3 w.heap.size HO.out.2.size
      · have hd0 : ((k : Int) == 0) = false := by simp; omega
        have hd0' : decide ((k : Int) = 0) = false := decide_eq_false (by omega)
        have HK0 := Lib.hid hk0
        rcases Nat.lt_or_ge k zs.length with h1 | h1
        · have hd1 : decide ((k : Int) < (zs.length : Int)) = true := decide_eq_true (by omega)
          have hd2 : decide ((k : Int) < (most : Int)) = false := decide_eq_false (by omega)
          have hd2n : decide (k < most) = false := decide_eq_false (by omega)
          have hd1n : decide (k < zs.length) = true := decide_eq_true (by omega)
          clear hk0 hkm h12
          go_wp2_with fail
          go_ret
          exact ⟨_, rfl, FIN.out _ _ HO.out.1 HK0.out, HO.out.2⟩
        · have hd1 : decide ((k : Int) < (zs.length : Int)) = false := decide_eq_false (by omega)
          clear hk0 hkm h12
          go_wp2_with fail
          go_ret
          exact ⟨_, rfl, FIN.out _ _ HO.out.1 HK0.out, HO.out.2⟩
/-- what 'filled' makes of a number -/
def filA (x s : Int) : Int := x % 18446744073709551616 % (s + 1)
theorem filA_raw (x s : Int) (hs : 1 ≤ s ∧ s ≤ 12) : wrap64 ((IntKind.u64.wrap x).tmod (IntKind.u64.wrap (s + 1))) = filA x s := by
  have e1 : IntKind.u64.wrap (s + 1) = s + 1 := by rw [u64_wrap]; omega
  have t1 : (IntKind.u64.wrap x).tmod (s + 1) = x % 18446744073709551616 % (s + 1) := by rw [u64_wrap]; exact Int.tmod_eq_emod_of_nonneg (by omega)
  unfold filA
  rw [e1, t1]
  have h1 := Int.emod_nonneg (x % 18446744073709551616) (show s + 1 ≠ 0 by omega)
  have h2 := Int.emod_lt_of_pos (x % 18446744073709551616) (show (0 : Int) < s + 1 by omega)
  unfold wrap64
  omega
def filI (ss ls : List Int) (k : Nat) : Int := if k < ls.length then filA (ls.getD k 0) (ss.getD k 0) else 0
def filL (ss ls : List Int) (k : Nat) : List Int := (List.range k).map (filI ss ls)
theorem filL_succ (ss ls : List Int) (k : Nat) : filL ss ls (k + 1) = filL ss ls k ++ [filI ss ls k] := by unfold filL; rw [List.range_succ, List.map_append]; rfl
theorem filL_len (ss ls : List Int) (k : Nat) : (filL ss ls k).length = k := by simp [filL]
def filF (ss ls : List Int) : List Int := filL ss ls ss.length
theorem filF_fits {ss : List Int} (ls : List Int) (hj : jugsB ss = true) : fitsB ss (filF ss ls) = true := by
  unfold jugsB at hj
  simp only [Bool.and_eq_true, decide_eq_true_eq, List.all_eq_true] at hj
  unfold fitsB
  simp only [Bool.and_eq_true, decide_eq_true_eq, List.all_eq_true]
  refine ⟨filL_len _ _ _, fun i hi => ?_⟩
  have hi := List.mem_range.1 hi
  rw [filF, filL_len] at hi
  have e : (filF ss ls).getD i 0 = filI ss ls i := by
    unfold filF filL
    rw [List.getD_eq_getElem?_getD, List.getElem?_map, List.getElem?_range hi]; rfl
  rw [e]
  have hz := hj.2 ss[i] (List.getElem_mem hi)
  unfold sizeB at hz
  simp only [Bool.and_eq_true, decide_eq_true_eq] at hz
  unfold filI
  rw [getD_lt hi]
  split
  · unfold filA
    have h1 := Int.emod_nonneg ((ls.getD i 0) % 18446744073709551616) (show ss[i] + 1 ≠ 0 by omega)
    have h2 := Int.emod_lt_of_pos ((ls.getD i 0) % 18446744073709551616) (show (0 : Int) < ss[i] + 1 by omega)
    omega
  · omega
set_option maxRecDepth 100000 in
set_option maxHeartbeats 1000000 in
theorem filled_any (ss ls : List Int) (v u : Value) (w : World) (hv : SlI w v ss) (hu : SlI w u ls) (hj : jugsB ss = true) (hl : ls.length ≤ 9223372036854775807) :
    Calls Try.prog 32 #[v, u] w fun e w' => ∃ s, e = .returned s ∧ w'.ownsRow w.heap.size 3 1 s (filF ss ls).length ((filF ss ls).map encI) ∧ Below w.heap.size w w' := by
  obtain ⟨i0, hi, hz0, hz1, hz2⟩ := info_parts info3
  obtain ⟨a, c, rfl, hc, hs⟩ := hv
  obtain ⟨a2, c2, rfl, hc2, hs2⟩ := hu
  have HS2 := Lib.hid hs2
  have hjj := hj
  unfold jugsB at hjj
  simp only [Bool.and_eq_true, decide_eq_true_eq, List.all_eq_true] at hjj
  obtain ⟨⟨hn1, hn4⟩, hsz⟩ := hjj
  obtain ⟨b, o, rfl, hbl, hat⟩ : ∃ b o, a = some ⟨b, o, none⟩ ∧ b < w.heap.size ∧ IntsAt w b o ss := hs.resolve_left (fun e => by rw [e] at hn1; simp at hn1)
  have HAT := Lib.hid hat
  have HBL := Lib.hid hbl
  have HSZ := Lib.hid hsz
  clear hs2 hs hj hat hbl hsz
  go_enter Try.func32, Try.ntmps32
  go_wp2_with fail
  go_loopw [5, 6] (fun lv iv wr => ∃ k : Nat, k ≤ ss.length ∧ iv = .int .i64 (k : Int) ∧ Hid (wr.ownsRow w.heap.size 3 1 lv (filL ss ls k).length ((filL ss ls k).map encI) ∧ Below w.heap.size w wr)) (fun _ iv _ => ss.length - (intOf iv).toNat)
  case atStart => exact ⟨0, by omega, rfl, Lib.hid ⟨World.ownsRow_nil _ _ _ _, Below.refl _ _⟩⟩
  case round =>
    obtain ⟨k, hk, rfl, HO⟩ := hrel
    have kw : IntKind.i64.wrap ((k : Int) + 1) = ((k + 1 : Nat) : Int) := by rw [i64_of _ (by omega) (by omega)]; omega
    by_cases h1 : k < ss.length
    · have hd1 : decide ((k : Int) < (ss.length : Int)) = true := decide_eq_true (by omega)
      have hd1n : decide (k < ss.length) = true := decide_eq_true h1
      have ck := (HAT.out.below HO.out.2 HBL.out).at_ k h1
      have hzb : 1 ≤ ss[k] ∧ ss[k] ≤ 12 := by
        have h := HSZ.out ss[k] (List.getElem_mem h1)
        unfold sizeB at h
        simp only [Bool.and_eq_true, decide_eq_true_eq] at h
        exact h
      have hsn := filL_succ ss ls k
      have hll := filL_len ss ls k
      by_cases h2 : k < ls.length
      · have hd2 : decide ((k : Int) < (ls.length : Int)) = true := decide_eq_true (by omega)
        have hd2n : decide (k < ls.length) = true := decide_eq_true h2
        obtain ⟨b2, o2, rfl, hbl2, hat2⟩ : ∃ b o, a2 = some ⟨b, o, none⟩ ∧ b < w.heap.size ∧ IntsAt w b o ls := HS2.out.resolve_left (fun e => by rw [e] at h2; simp at h2)
        have ck2 := (hat2.below HO.out.2 hbl2).at_ k h2
        have hfi : filI ss ls k = filA ls[k] ss[k] := by unfold filI; rw [if_pos h2, getD_lt h1, getD_lt h2]
        have hraw := filA_raw ls[k] ss[k] hzb
        have hw1 : wrap64 (ss[k] + 1) = ss[k] + 1 := by unfold wrap64; omega
        have hnz : IntKind.u64.wrap (ss[k] + 1) ≠ 0 := by rw [u64_wrap]; omega
        rw [hfi] at hsn
        generalize filA ls[k] ss[k] = tz at *
        have HSN := Lib.hid hsn
        have HH := Lib.hid hat2
        have HHZ := Lib.hid hzb
        clear hfi hsn hat2 hzb
        generalize ls[k] = y at *
        generalize ss[k] = z at *
        generalize filL ss ls k = LL at *
        go_wp2_with fail
        go_quiet (fail)
        have hO1 := own_grow HO.out.1 (below_drewN (Below.refl wr.heap.size wr) nq)
        have hB1 := below_drewN HO.out.2 nq
        have HO1 := Lib.hid hO1
        have HB1 := Lib.hid hB1
        clear hO1 hB1
        go_wp2_with (at_builtin; refine wpList_append_own_at _ rfl _ _ 22 rfl w.heap.size 3 i0 (.int .i64 0) 1 8 Try.underlying22 hi hz0 hz1 hz2 rfl (by decide) _ _ _ rfl (HO1.out.alloc _) _ 1 1 [encI tz] rfl rfl (cell_one_at _ _ _ _ (by simp)) (by simp [Value.oneCell', encI]) (by unfold maxLen; omega) (by omega) (Nat.le_trans HB1.out.size (by simp)) ?_; intro v' w2' hown' hgrow hnil hat'; have HR2 := Lib.hid hown'; have HB2 := Lib.hid (own_below HO1.out HB1.out hgrow); clear hown' hgrow hnil hat')
        go_roundw
        case rel => exact ⟨k + 1, by omega, by simp, by rw [HSN.out]; exact Lib.hid ⟨by simpa using HR2.out, HB2.out⟩⟩
        case measure => simp [intOf]; omega
      · have hd2 : decide ((k : Int) < (ls.length : Int)) = false := decide_eq_false (by omega)
        have hd2n : decide (k < ls.length) = false := decide_eq_false h2
        have hfi : filI ss ls k = 0 := by unfold filI; rw [if_neg h2]
        rw [hfi] at hsn
        have HSN := Lib.hid hsn
        clear hfi hsn hzb ck
        generalize filL ss ls k = LL at *
        go_wp2_with (at_builtin; refine wpList_append_own_at _ rfl _ _ 22 rfl w.heap.size 3 i0 (.int .i64 0) 1 8 Try.underlying22 hi hz0 hz1 hz2 rfl (by decide) _ _ _ rfl (HO.out.1.alloc _) _ 1 1 [encI 0] rfl rfl (cell_one_at _ _ _ _ (by simp)) (by simp [Value.oneCell', encI]) (by unfold maxLen; omega) (by omega) (Nat.le_trans HO.out.2.size (by simp)) ?_; intro v' w2' hown' hgrow hnil hat'; have HR2 := Lib.hid hown'; have HB2 := Lib.hid (own_below HO.out.1 HO.out.2 hgrow); clear hown' hgrow hnil hat')
        go_roundw
        case rel => exact ⟨k + 1, by omega, by simp, by rw [HSN.out]; exact Lib.hid ⟨by simpa using HR2.out, HB2.out⟩⟩
        case measure => simp [intOf]; omega
    · have hd1 : decide ((k : Int) < (ss.length : Int)) = false := decide_eq_false (by omega)
      have hd1n : decide (k < ss.length) = false := decide_eq_false h1
      obtain rfl : k = ss.length := by omega
      go_wp2_with fail
      go_ret
      exact ⟨_, rfl, HO.out.1, HO.out.2⟩
end Go.Proofs.Ytlamppplnojpbaa
