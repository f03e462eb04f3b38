import Derived.Test.YtlehddifcjklgaaBh
import Derived.Maps.OwnIn
import Derived.Maps.OwnSet
import Derived.Maps.AppendAt
import Derived.RangeFuncNested
import Derived.RangeFuncBound
import Derived.RangeFuncCalls
import Derived.RangeFuncLeaves
import Derived.Shelf.Abstract
import Derived.Shelf.RegionOpen
import Derived.WalkKit
import Derived.OwnWalkIn
import Derived.TacticsInMore
import Derived.LoopNIn
import Derived.LoopIn
import Derived.WalkMore
import Derived.Sort.QuietThIn
import Derived.Sort.QuietTacIn
import Derived.Sort.BigQuietIn
import Derived.WalkSpells
import Derived.WalkLawsBesides
import Derived.BigQuiet
import Derived.Deep.QuietTactic
import Derived.Lib.Hide
import Derived.Deep.RegionHeld3
import Derived.StillTailTactics
import Derived.Deep.LoopGhost
import Derived.Lib.IndexAny
namespace Go.Proofs.Ytlehddifcjklgaa
open Go.RowKit Go.Shelf
attribute [local go_sem] Oper.semAt_some
/-- a slice of the call's own, with its block named -/
def OwnG (W : World) (n₀ g c : Nat) (ps : List Pt) : Prop := OwnP W n₀ (.slice (some ⟨g, 0, none⟩) ps.length c) ps
theorem OwnG.pts {W : World} {n₀ g c : Nat} {ps : List Pt} (h : OwnG W n₀ g c ps) (h1 : ps ≠ []) : PtsAt W g 0 ps ∧ ps.length ≤ c ∧ n₀ ≤ g := by
  obtain ⟨a', c', he, h⟩ := OwnP.open h
  cases he
  rcases h with ⟨_, _, h⟩ | ⟨g', hg, h1, h2, h3⟩
  · exact absurd h h1
  · cases h1; exact ⟨h2, h3, hg⟩
theorem OwnG.heap {W : World} {n₀ g c : Nat} {ps : List Pt} (h : OwnG W n₀ g c ps) : ∃ cur : Array Value, W.heap[g]? = some (.cells cur 58 (0, 0)) ∧ n₀ ≤ g ∧ ps.length ≤ c ∧ c ≤ maxLen ∧ cur.size = c * 2 ∧ cur.toList.take (ps.length * 2) = flat ps := by
  rcases h.2 with ⟨h, _⟩ | ⟨g', cap, cur, he, hg, hgb, hc, h5, h6, h7⟩
  · cases h
  · cases he; exact ⟨cur, hgb, hg, hc, h5, h6, h7⟩
theorem OwnG.frozen {W : World} {n₀ g c : Nat} {ps : List Pt} (h : OwnG W n₀ g c ps) (i : Nat) : W.frozen? ⟨g, i, none⟩ = false := by
  obtain ⟨cur, hh, _⟩ := h.heap
  simp [World.frozen?, hh]
theorem flat_set : ∀ (ps : List Pt) (i : Nat) (p : Pt), flat (ps.set i p) = ((flat ps).set (i * 2) (.int .i64 p.1)).set (i * 2 + 1) (.int .i64 p.2)
  | [], _, _ => rfl
  | q :: ps, 0, p => by simp [flat]
  | q :: ps, i + 1, p => by
    rw [List.set_cons_succ, flat, flat_set ps i p, show (i + 1) * 2 = i * 2 + 1 + 1 by omega]
    simp [flat]
theorem setCell_heap (W : World) (g i : Nat) (v : Value) (cur : Array Value) (h : W.heap[g]? = some (.cells cur 58 (0, 0))) : (W.setCell ⟨g, i, none⟩ v).heap[g]? = some (.cells (cur.setIfInBounds i v) 58 (0, 0)) := by
  have hlt := (Array.getElem?_eq_some_iff.1 h).1
  obtain ⟨_, he⟩ := Array.getElem?_eq_some_iff.1 h
  simp [World.setCell, hlt, Array.getElem_modify, he]
theorem OwnG.set {W : World} {n₀ g c : Nat} {ps : List Pt} (h : OwnG W n₀ g c ps) (i : Nat) (hi : i < ps.length) (x y : Int) :
    OwnG ((W.setCell ⟨g, i * 2, none⟩ (.int .i64 x)).setCell ⟨g, i * 2 + 1, none⟩ (.int .i64 y)) n₀ g c (ps.set i (x, y)) := by
  obtain ⟨cur, hh, h1, h2, h3, h4, h5⟩ := h.heap
  have hs := setCell_heap _ g (i * 2 + 1) (.int .i64 y) _ (setCell_heap W g (i * 2) (.int .i64 x) cur hh)
  refine ⟨by rw [flat_length], .inr ⟨g, c, _, rfl, h1, hs, by rw [List.length_set]; exact h2, h3, by simp [h4], ?_⟩⟩
  rw [flat_set, ← h5, List.length_set]
  simp only [Array.toList_setIfInBounds]
  rw [List.take_set, List.take_set]
theorem moved_ok {N k : Nat} {qs : List Pt} (hN : qs.length = N) (hN12 : N ≤ 12) (hI : ∀ i (h : i < qs.length), Bd 1000 qs[i].1 ∧ 1 ≤ qs[i].2 ∧ qs[i].2 ≤ 100) (hJ : ∀ i (h : i < qs.length), i < k → Bd (100 + 4 * (i + 1)) qs[i].1) (hk : k < N) {x y : Int} (hx : Bd (100 + 4 * (k + 1)) x) (hy : 1 ≤ y ∧ y ≤ 100) :
    (qs.set k (x, y)).length = N ∧ (∀ i (h : i < (qs.set k (x, y)).length), Bd 1000 (qs.set k (x, y))[i].1 ∧ 1 ≤ (qs.set k (x, y))[i].2 ∧ (qs.set k (x, y))[i].2 ≤ 100) ∧ (∀ i (h : i < (qs.set k (x, y)).length), i < k + 1 → Bd (100 + 4 * (i + 1)) (qs.set k (x, y))[i].1) := by
  refine ⟨by rw [List.length_set]; exact hN, fun i h => ?_, fun i h hik => ?_⟩
  · rw [List.getElem_set]
    split
    · refine ⟨?_, hy⟩
      show Bd 1000 x
      unfold Bd at *; omega
    · exact hI i _
  · rw [List.getElem_set]
    split
    · subst k; exact hx
    · exact hJ i _ (by omega)
theorem twr_of {qs : List Pt} (h1 : 1 ≤ qs.length) (h2 : qs.length ≤ 12) (h : ∀ i (h : i < qs.length), Bd 1000 qs[i].1 ∧ 1 ≤ qs[i].2 ∧ qs[i].2 ≤ 100) : twrB qs = true := by
  unfold twrB
  simp only [Bool.and_eq_true, decide_eq_true_eq, List.all_eq_true]
  refine ⟨⟨h1, h2⟩, fun q hq => ?_⟩
  obtain ⟨i, hi, rfl⟩ := List.getElem_of_mem hq
  have := h i hi
  unfold Bd at this
  exact plank_true (p1 := qs[i].1) (p2 := qs[i].2) (by omega) (by omega) (by omega) (by omega)
theorem planksF_ok (ps : List Pt) : 1 ≤ (planksF ps).length ∧ twrB (planksF ps) = true := by
  unfold planksF
  split
  · exact ⟨by simp, by kernel_rfl⟩
  · rename_i h
    have hl : 1 ≤ ps.length := by
      rcases ps with _ | ⟨p, ps⟩
      · exact absurd rfl h
      · simp
    have hl2 : ((ps.take 12).map pk).length = min 12 ps.length := by rw [List.length_map, List.length_take]
    refine ⟨by rw [hl2]; omega, twr_of (by rw [hl2]; omega) (by rw [hl2]; omega) (fun i hi => ?_)⟩
    rw [List.getElem_map]
    unfold pk Bd
    dsimp only
    omega
theorem tmod5 (x : Int) : -4 ≤ x.tmod 5 ∧ x.tmod 5 ≤ 4 := by
  have h1 := Int.natAbs_tmod x 5
  have h2 := Nat.mod_lt x.natAbs (show (5 : Int).natAbs > 0 by decide)
  have : (x.tmod 5).natAbs ≤ 4 := by rw [h1]; omega
  omega
set_option maxRecDepth 100000 in
set_option maxHeartbeats 1000000 in
theorem HullStands_any (ps : List Pt) (a : Option Addr) (c : Nat) (pl : Int) (w : World) (hp : PtsA w a ps c) (hc : ps.length ≤ c) (hn : a = none → c = 0) (hl : ps.length ≤ maxLen) (hz : ∀ q ∈ ps, InI q.1 ∧ InI q.2) (hi : InI pl) :
    Calls Try.prog 10 #[.slice a ps.length c, .int .i64 pl] w fun e w' => e = .returned (.bool true) ∧ Below w.heap.size w w' := by
  have hpk := planks_any ps a c w hp hl hz
  have hF := planksF_ok ps
  generalize planksF ps = qs at *
  clear hp hc hn hl hz
  go_enter Try.func10, Try.ntmps10
  go_wp2_with fail
  refine hpk.mono ?_
  rintro e w1 ⟨v, rfl, ho, hb⟩
  obtain ⟨g, c2, rfl, hg⟩ : ∃ g c2, v = .slice (some ⟨g, 0, none⟩) qs.length c2 ∧ w.heap.size ≤ g := by
    obtain ⟨a2, c2, rfl, h⟩ := ho.open
    rcases h with ⟨_, _, rfl⟩ | ⟨g, hg, rfl, _⟩
    · simp at hF
    · exact ⟨g, c2, rfl, hg⟩
  have HO := Lib.hid (show OwnG w1 w.heap.size g c2 qs from ho)
  have HB := Lib.hid hb
  obtain ⟨N, hN⟩ : ∃ N, qs.length = N := ⟨_, rfl⟩
  rw [hN]
  have hN1 : 1 ≤ N := by omega
  have hN12 : N ≤ 12 := by have := twr_len hF.2; omega
  have HT := Lib.hid (And.intro hN hF.2)
  clear hpk ho hb hN hF
  go_wp2_with fail
  go_loopw [6] (fun r wr => ∃ (j : Nat) (qs : List Pt), r = .int .i64 (j : Int) ∧ j ≤ 2 ∧ Hid (OwnG wr w.heap.size g c2 qs) ∧ Hid (qs.length = N ∧ twrB qs = true) ∧ Hid (Below w.heap.size w wr)) (fun r _ => 2 - (intOf r).toNat)
  case atStart => exact ⟨0, qs, rfl, by omega, HO, HT, HB⟩
  case round =>
    clear HO HT HB
    clear qs
    obtain ⟨j, qs, rfl, hj, HO, HT, HB⟩ := hrel
    by_cases hlt : j < 2
    · have hd : decide ((j : Int) < 2) = true := decide_eq_true (by omega)
      obtain ⟨p, hpN, hp1, hp2⟩ : ∃ p : Nat, p < N ∧ wrap64 ((IntKind.u64.wrap pl).tmod (N : Int)) = (p : Int) ∧ IntKind.i64.wrap ((IntKind.u64.wrap pl).tmod (N : Int)) = (p : Int) := by
        have e2 : (IntKind.u64.wrap pl).tmod (N : Int) = IntKind.u64.wrap pl % (N : Int) := Int.tmod_eq_emod_of_nonneg (by rw [u64_wrap]; omega)
        have h1 := Int.emod_nonneg (IntKind.u64.wrap pl) (show (N : Int) ≠ 0 by omega)
        have h2 := Int.emod_lt_of_pos (IntKind.u64.wrap pl) (show (0 : Int) < N by omega)
        refine ⟨(IntKind.u64.wrap pl % (N : Int)).toNat, by omega, ?_, ?_⟩
        · rw [e2, w64_of (by omega) (by omega)]; omega
        · rw [e2, i64_of _ (by omega) (by omega)]; omega
      have hne : qs ≠ [] := fun h => by have := HT.out.1; subst h; simp at this; omega
      obtain ⟨hpt, hcc, hg0⟩ := HO.out.pts hne
      have HC1 := Balance_any qs g c2 p wr hpt hcc HT.out.2 (by rw [HT.out.1]; exact hpN)
      have HPT := Lib.hid hpt
      have HCC := Lib.hid hcc
      rw [HT.out.1] at HC1
      obtain ⟨B1, B2, hB12⟩ : ∃ B1 B2, balF (qs.drop p) = (B1, B2) := ⟨_, _, rfl⟩
      rw [hB12] at HC1
      dsimp only at HC1
      have HB12 := Lib.hid hB12
      clear hB12 hpt hcc
      go_wp2_with fail
      refine HC1.mono ?_
      rintro e w2 ⟨rfl, hb⟩
      have BA := Below.al (Below.refl w2.heap.size w2) (Nat.le_refl _) (.cells #[.int .i64 B1, .int .i64 B2] 58)
      have BW := Below.andThen hb BA (Nat.le_refl _)
      have T2 := Lib.hid (Below.andThen HB.out BW (Nat.le_refl _))
      have O2 := Lib.hid (show OwnG (w2.alloc (.cells #[.int .i64 B1, .int .i64 B2] 58)) w.heap.size g c2 qs from own_grow HO.out BW)
      have P2 := Lib.hid (HPT.out.grow BW)
      have r2 := Lib.hid (show Row (w2.alloc (.cells #[.int .i64 B1, .int .i64 B2] 58)) w2.heap.size 58 [.int .i64 B1, .int .i64 B2] from Row.new _ _ _)
      clear hb BA BW HC1 HO HPT HB
      go_wp2_with fail
      generalize w2.alloc (.cells #[.int .i64 B1, .int .i64 B2] 58) = V2 at *
      have HS := Stands_any qs g c2 V2 P2.out HCC.out HT.out.2
      rw [HT.out.1] at HS
      obtain ⟨S1, S2, hS⟩ : ∃ S1 S2, standF qs = (S1, S2) := ⟨_, _, rfl⟩
      rw [hS] at HS
      dsimp only at HS
      refine HS.mono ?_
      rintro e w3 ⟨rfl, hb⟩
      have T3 := Lib.hid (Below.andThen T2.out hb (Nat.le_refl _))
      have O3 := Lib.hid (show OwnG w3 w.heap.size g c2 qs from own_grow O2.out hb)
      have P3 := Lib.hid (P2.out.grow hb)
      have r3 := Lib.hid (r2.out.below hb r2.out.lt)
      clear hb HS T2 O2 P2 r2
      go_wp2_with fail
      have HR := Reach_any qs g c2 w3 P3.out HCC.out HT.out.2
      rw [HT.out.1] at HR
      obtain ⟨R, hR⟩ : ∃ R, rch qs N = R := ⟨_, rfl⟩
      rw [hR] at HR
      refine HR.mono ?_
      rintro e w4 ⟨rfl, hb⟩
      have T4 := Lib.hid (Below.andThen T3.out hb (Nat.le_refl _))
      have O4 := Lib.hid (show OwnG w4 w.heap.size g c2 qs from own_grow O3.out hb)
      have P4 := Lib.hid (P3.out.grow hb)
      have r4 := Lib.hid (r3.out.below hb r3.out.lt)
      clear hb HR T3 O3 P3 r3
      go_wp2_with fail
      have HQ := rStands_any qs g c2 w4 P4.out HT.out.2
      rw [HT.out.1, hS] at HQ
      dsimp only at HQ
      refine HQ.mono ?_
      rintro e w5 ⟨rfl, hb⟩
      have T5 := Lib.hid (Below.andThen T4.out hb (Nat.le_refl _))
      have O5 := Lib.hid (show OwnG w5 w.heap.size g c2 qs from own_grow O4.out hb)
      have P5 := Lib.hid (P4.out.grow hb)
      have r5 := Lib.hid (r4.out.below hb r4.out.lt)
      clear hb HQ T4 O4 P4 r4
      have HC53 := Lib.hid (fun (x : Kl w5) => rBalance_any qs g c2 p x.W (P5.out.grow x.h) (by rw [HT.out.1]; exact hpN) (by rw [HT.out.1]; exact hN12) (fun i hi => twr_bd HT.out.2 hi))
      have HC54 := Lib.hid (fun (x : Kl w5) => rReach_any qs g c2 x.W (P5.out.grow x.h) (by rw [HT.out.1]; exact hN1) (by rw [HT.out.1]; exact hN12) (fun i hi => twr_bd HT.out.2 hi))
      rw [HT.out.1, HB12.out] at HC53
      rw [HT.out.1, hR] at HC54
      dsimp only at HC53
      obtain ⟨z0, z1, _, _⟩ := two_cells r5.out
      have x0 := Kl.cell r5.out.lt z0
      have x1 := Kl.cell r5.out.lt z1
      have E0 := eq58 B1 B2
      clear z0 z1
      go_wp2_with fail
      refine wp_region_below (by kernel_rfl) (by kernel_rfl) ?_
      repeat (go_big_quiet_step (first | (go_at_call 53; exact Kl.call (HC53.out _)) | (go_at_call 54; exact Kl.call (HC54.out _))))
      refine wpQuiet_nil ?_
      rintro _ ⟨wq, rfl⟩
      have T6 := Lib.hid (Below.andThen T5.out wq.h (Nat.le_refl _))
      have O6 := Lib.hid (show OwnG wq.W w.heap.size g c2 qs from own_grow O5.out wq.h)
      generalize wq.W = w6 at *
      clear x0 x1 HC53 HC54 T5 O5 P5 r5
      go_wp2_with fail
      have HI0 := Lib.hid (show (∀ i (h : i < qs.length), Bd 1000 qs[i].1 ∧ 1 ≤ qs[i].2 ∧ qs[i].2 ≤ 100) from fun i h => twr_bd HT.out.2 h)
      have HN := Lib.hid HT.out.1
      clear HB12 hR hS E0 HCC HT hp1 hp2
      go_loopw [17, 18] (fun i _ wx => ∃ (k : Nat) (qs : List Pt), i = .int .i64 (k : Int) ∧ k ≤ N ∧ Hid (OwnG wx w.heap.size g c2 qs) ∧ Hid (qs.length = N) ∧ Hid (∀ i (h : i < qs.length), Bd 1000 qs[i].1 ∧ 1 ≤ qs[i].2 ∧ qs[i].2 ≤ 100) ∧ Hid (∀ i (h : i < qs.length), i < k → Bd (100 + 4 * (i + 1)) qs[i].1) ∧ Hid (Below w.heap.size w wx)) (fun i _ _ => N - (intOf i).toNat)
      case atStart => exact ⟨0, qs, rfl, by omega, O6, HN, HI0, Lib.hid (fun i h h' => by omega), T6⟩
      case round =>
        clear O6 HN HI0 T6 hne
        clear qs
        obtain ⟨k, qs, rfl, hk, HO, HN, HI, HJ, HB⟩ := hrel
        by_cases hlt : k < N
        · have hd : decide ((k : Int) < (N : Int)) = true := decide_eq_true (by omega)
          have hne : qs ≠ [] := fun h => by have := HN.out; subst h; simp at this; omega
          obtain ⟨hpt, hcc, hg0⟩ := HO.out.pts hne
          have hk' : k < qs.length := by rw [HN.out]; exact hlt
          have y0 := hpt.y 0 (by omega)
          rw [show 0 + 0 * 2 + 1 = 1 from rfl] at y0
          have b0 := (HI.out 0 (by omega)).2
          have n0 : IntKind.i64.wrap (-(qs[0]'(by omega)).2) = -(qs[0]'(by omega)).2 := i64_of _ (by omega) (by omega)
          by_cases hk0 : k = 0
          · have d5 : decide (0 < k) = false := decide_eq_false (by omega)
            subst hk0
            have xk := hpt.x 0 hk'
            rw [show 0 + 0 * 2 = 0 from rfl] at xk
            have bk := HI.out 0 hk'
            obtain ⟨k1, hk1'⟩ : ∃ k1, (qs[0]'hk').1 = k1 := ⟨_, rfl⟩
            obtain ⟨k2, hk2'⟩ : ∃ k2, (qs[0]'hk').2 = k2 := ⟨_, rfl⟩
            rw [hk2'] at y0 b0 n0 bk
            rw [hk1'] at xk bk
            have hmv := Lib.hid (moved_ok HN.out hN12 HI.out HJ.out hlt (x := -k2 + k1.tmod 5) (y := k2) (by unfold Bd at *; have := tmod5 k1; omega) bk.2)
            have e4 : wrap64 (-k2 + k1.tmod 5) = -k2 + k1.tmod 5 := w64_of (by unfold Bd at *; have := tmod5 k1; omega) (by unfold Bd at *; have := tmod5 k1; omega)
            have e5 : IntKind.i64.wrap (-k2 + k1.tmod 5) = -k2 + k1.tmod 5 := i64_of _ (by unfold Bd at *; have := tmod5 k1; omega) (by unfold Bd at *; have := tmod5 k1; omega)
            clear bk b0 hk1' hk2'
            have X0 := Kl.cell hpt.lt xk
            have X1 := Kl.cell hpt.lt y0
            clear hpt
            go_wp2_with fail
            refine wp_region_cut (C := fun w' => ∃ n : Kl wr, w' = n.W) 17 (by kernel_rfl) (by kernel_rfl) ⟨⟨wr.drew, (Below.refl _ _).drew⟩, rfl⟩ ?_
            simp only [List.take_succ_cons, List.take_zero, List.drop_succ_cons, List.drop_zero]
            repeat (go_big_quiet_step (fail))
            refine wpQuiet_nil ?_
            rintro _ ⟨wq, rfl⟩
            have HBq := Lib.hid (Below.andThen HB.out wq.h (Nat.le_refl _))
            have HOq := Lib.hid (show OwnG wq.W w.heap.size g c2 qs from own_grow HO.out wq.h)
            obtain ⟨hpq, _, _⟩ := HOq.out.pts hne
            have uk := hpq.x 0 hk'
            have vk := hpq.y 0 hk'
            rw [show 0 + 0 * 2 = 0 from rfl] at uk
            rw [show 0 + 0 * 2 + 1 = 1 from rfl] at vk
            have g0 := HOq.out.frozen 0
            have g1 := HOq.out.frozen 1
            have HOn := Lib.hid (show OwnG ((wq.W.setCell ⟨g, 0, none⟩ (.int .i64 (-k2 + k1.tmod 5))).setCell ⟨g, 1, none⟩ (.int .i64 k2)) w.heap.size g c2 (qs.set 0 (-k2 + k1.tmod 5, k2)) from HOq.out.set 0 hk' (-k2 + k1.tmod 5) k2)
            have HBn := Lib.hid ((HBq.out.setCell (p := ⟨g, 0, none⟩) hg0 (.int .i64 (-k2 + k1.tmod 5))).setCell (p := ⟨g, 1, none⟩) hg0 (.int .i64 k2))
            clear hpq
            go_wp2_with fail
            refine ⟨⟨0 + 1, _, by simp, by omega, HOn, Lib.hid hmv.out.1, Lib.hid hmv.out.2.1, Lib.hid hmv.out.2.2, HBn⟩, ?_⟩
            simp [intOf]; omega
          · have d5 : decide (0 < k) = true := decide_eq_true (by omega)
            have hk1 : k - 1 < qs.length := by omega
            have xk := hpt.x k hk'
            have yk := hpt.y k hk'
            have xm := hpt.x (k - 1) hk1
            rw [Nat.zero_add] at xk yk xm
            have bk := HI.out k hk'
            have bm := HJ.out (k - 1) hk1 (by omega)
            have e1 : IntKind.i64.wrap ((k : Int) - 1) = ((k - 1 : Nat) : Int) := by rw [i64_of _ (by omega) (by omega)]; omega
            have e2 : (k : Int) - 1 = ((k - 1 : Nat) : Int) := by omega
            obtain ⟨l0, hl0⟩ : ∃ l0, (qs[0]'(by omega)).2 = l0 := ⟨_, rfl⟩
            obtain ⟨m1, hm1⟩ : ∃ m1, qs[k - 1].1 = m1 := ⟨_, rfl⟩
            obtain ⟨k1, hk1'⟩ : ∃ k1, qs[k].1 = k1 := ⟨_, rfl⟩
            obtain ⟨k2, hk2'⟩ : ∃ k2, qs[k].2 = k2 := ⟨_, rfl⟩
            rw [hl0] at y0 b0 n0
            rw [hm1] at xm bm
            rw [hk1'] at xk bk
            rw [hk2'] at yk bk
            have hk3 : k ≤ 12 := by omega
            have bm2 : Bd (100 + 4 * (k : Int)) m1 := by unfold Bd at *; omega
            have hmv := Lib.hid (moved_ok HN.out hN12 HI.out HJ.out hlt (x := m1 + k1.tmod 5) (y := k2) (by unfold Bd at *; have := tmod5 k1; omega) bk.2)
            have f0 := HO.out.frozen (k * 2)
            have f1 := HO.out.frozen (k * 2 + 1)
            have e4 : wrap64 (m1 + k1.tmod 5) = m1 + k1.tmod 5 := w64_of (by unfold Bd at *; have := tmod5 k1; omega) (by unfold Bd at *; have := tmod5 k1; omega)
            have e5 : IntKind.i64.wrap (m1 + k1.tmod 5) = m1 + k1.tmod 5 := i64_of _ (by unfold Bd at *; have := tmod5 k1; omega) (by unfold Bd at *; have := tmod5 k1; omega)
            have XK := Lib.hid (And.intro hk1' hk2')
            clear bm bk bm2 b0 hl0 hm1 hk1' hk2'
            have X0 := Kl.cell hpt.lt xk
            have X1 := Kl.cell hpt.lt yk
            clear hpt hk0
            generalize hkk : k - 1 = kk at *
            clear hkk
            go_wp2_with fail
            refine wp_region_cut (C := fun w' => ∃ n : Kl wr, w' = n.W) 17 (by kernel_rfl) (by kernel_rfl) ⟨⟨wr.drew, (Below.refl _ _).drew⟩, rfl⟩ ?_
            simp only [List.take_succ_cons, List.take_zero, List.drop_succ_cons, List.drop_zero]
            repeat (go_big_quiet_step (fail))
            refine wpQuiet_nil ?_
            rintro _ ⟨wq, rfl⟩
            have HBq := Lib.hid (Below.andThen HB.out wq.h (Nat.le_refl _))
            have HOq := Lib.hid (show OwnG wq.W w.heap.size g c2 qs from own_grow HO.out wq.h)
            obtain ⟨hpq, _, _⟩ := HOq.out.pts hne
            have uk := hpq.x k hk'
            have vk := hpq.y k hk'
            rw [Nat.zero_add] at uk vk
            have g0 := HOq.out.frozen (k * 2)
            have g1 := HOq.out.frozen (k * 2 + 1)
            have HOn := Lib.hid (HOq.out.set k hk' (m1 + k1.tmod 5) k2)
            have HBn := Lib.hid ((HBq.out.setCell (p := ⟨g, k * 2, none⟩) hg0 (.int .i64 (m1 + k1.tmod 5))).setCell (p := ⟨g, k * 2 + 1, none⟩) hg0 (.int .i64 k2))
            clear f0 f1 hpq
            go_wp2_with fail
            refine ⟨⟨k + 1, _, by simp, by omega, HOn, Lib.hid hmv.out.1, Lib.hid hmv.out.2.1, Lib.hid hmv.out.2.2, HBn⟩, ?_⟩
            simp [intOf]; omega
        · have hd : decide ((k : Int) < (N : Int)) = false := decide_eq_false (by omega)
          have HT := Lib.hid (And.intro HN.out (twr_of (by rw [HN.out]; exact hN1) (by rw [HN.out]; exact hN12) HI.out))
          go_wp2_with fail
          refine ⟨⟨j + 1, qs, by simp, by omega, HO, HT, HB⟩, ?_⟩
          simp [intOf]; omega
    · have hd : decide ((j : Int) < 2) = false := decide_eq_false (by omega)
      go_wp2_with fail
      refine (awake_any _).mono ?_
      rintro e w8 ⟨rfl, hb⟩
      have T8 := Lib.hid (Below.andThen HB.out hb (Nat.le_refl _))
      clear hb
      go_wp2_with fail
      go_ret
      exact ⟨rfl, T8.out⟩
end Go.Proofs.Ytlehddifcjklgaa
