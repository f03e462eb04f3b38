import Derived.Test.YtlehddifcjklgaaDa
import Derived.Maps.OwnIn
import Derived.Maps.OwnSet
import Derived.Maps.AppendAt
import Derived.RangeFuncNested
import Derived.RangeFuncBound
import Derived.RangeFuncCalls
import Derived.RangeFuncLeaves
import Derived.Shelf.Abstract
import Derived.Shelf.RegionOpen
import Derived.WalkKit
import Derived.OwnWalkIn
import Derived.TacticsInMore
import Derived.LoopNIn
import Derived.LoopIn
import Derived.WalkMore
import Derived.Sort.QuietThIn
import Derived.Sort.QuietTacIn
import Derived.Sort.BigQuietIn
import Derived.WalkSpells
import Derived.WalkLawsBesides
import Derived.BigQuiet
import Derived.Deep.QuietTactic
import Derived.Lib.Hide
import Derived.Deep.RegionHeld3
import Derived.StillTailTactics
import Derived.Deep.LoopGhost
import Derived.Lib.IndexAny
namespace Go.Proofs.Ytlehddifcjklgaa
open Go.RowKit Go.Shelf
attribute [local go_sem] Oper.semAt_some
set_option maxRecDepth 100000 in
set_option maxHeartbeats 2000000 in
theorem HullFalls_any (ps : List Pt) (a : Option Addr) (c : Nat) (fr sd : Int) (w : World) (hp : PtsA w a ps c) (_hc : ps.length ≤ c) (_hn : a = none → c = 0) (hl : ps.length ≤ maxLen) (hz : ∀ q ∈ ps, InI q.1 ∧ InI q.2) (_hi : InI fr) (_hj : InI sd) :
    Calls Try.prog 13 #[.slice a ps.length c, .int .i64 fr, .int .i64 sd] w fun e w' => e = .returned (.bool true) ∧ Below w.heap.size w w' := by
  have htm := tame_any ps a c fr w hp hl hz
  clear hp _hc _hn hl hz _hi _hj
  go_enter Try.func13, Try.ntmps13
  go_wp2_with fail
  refine htm.mono ?_
  rintro e w1 ⟨v, hs, rfl, ho, hck, hb⟩
  have ha := chk_areP hck
  have hA := chk_area hck
  obtain ⟨h3, h12⟩ := areP_len ha
  obtain ⟨g, c2, rfl, hpt⟩ : ∃ g c2, v = .slice (some ⟨g, 0, none⟩) hs.length c2 ∧ PtsAt w1 g 0 hs := by
    obtain ⟨a2, c2, rfl, h⟩ := ho.open
    rcases h with ⟨_, _, rfl⟩ | ⟨g, hg, rfl, h, _⟩
    · simp at h3
    · exact ⟨g, c2, rfl, h⟩
  obtain ⟨s, hsl, hk1, hk2⟩ : ∃ k : Nat, k < hs.length ∧ wrap64 ((IntKind.u64.wrap sd).tmod (hs.length : Int)) = (k : Int) ∧ IntKind.i64.wrap ((IntKind.u64.wrap sd).tmod (hs.length : Int)) = (k : Int) := by
    have e2 : (IntKind.u64.wrap sd).tmod (hs.length : Int) = IntKind.u64.wrap sd % (hs.length : Int) := Int.tmod_eq_emod_of_nonneg (by rw [u64_wrap]; omega)
    have h1 := Int.emod_nonneg (IntKind.u64.wrap sd) (show (hs.length : Int) ≠ 0 by omega)
    have h2 := Int.emod_lt_of_pos (IntKind.u64.wrap sd) (show (0 : Int) < hs.length by omega)
    refine ⟨(IntKind.u64.wrap sd % (hs.length : Int)).toNat, by omega, ?_, ?_⟩
    · rw [e2, w64_of (by omega) (by omega)]; omega
    · rw [e2, i64_of _ (by omega) (by omega)]; omega
  obtain ⟨T, hT1, hT2, hT3⟩ := rollD_all hck hsl
  have HR := Lib.hid (fun W (h : PtsAt W g 0 hs) => Roll_any hs g c2 s hs.length (T.map Int.ofNat) W h hck hA hsl hT1 (by rw [List.length_map]; omega))
  have HA := Lib.hid (fun W (h : PtsAt W g 0 hs) => Rests_any hs g c2 W h hck hA)
  have HN := Lib.hid (fun W t (h : PtsAt W g 0 hs) (ht : t < hs.length) => Lean_any hs g c2 t W h hck hA ht)
  have HOK := Lib.hid (fun t (ht : t < hs.length) => lean_ok hck ht)
  have HPR := Lib.hid (fun t (ht : t < hs.length) => lean_parts hck ht)
  have HLE := Lib.hid (fun s t (hs' : s < hs.length) (ht : t < hs.length) => low_lean (m := mid hs) (mid_D hck) (along_pos hck hs') (along_pos hck ht))
  have HAT := Lib.hid (rollD_at hT2 h3)
  have HMS := Lib.hid (fun t (ht : t < hs.length) => mem_sides (p := restB hs (mid hs)) ht)
  have lS := Lib.hid (Nat.le_trans (sidesL_length (restB hs (mid hs)) hs.length) (show hs.length ≤ 1000 by omega))
  have hTne : ∃ R, T = s :: R := hT2.head.2
  have q2 : ¬ ((hs.length : Int) = 0) := by omega
  have q3 : ¬ (hs.length = 0) := by omega
  have hu : IntKind.u64.wrap (hs.length : Int) = (hs.length : Int) := by rw [u64_wrap]; omega
  have q4 : ¬ (hs = []) := fun h => by subst h; simp at h3
  rw [List.length_map] at HR
  have hT0 : ∃ hT0 : 0 < T.length, T[0] = s := by obtain ⟨R, rfl⟩ := hTne; exact ⟨by simp, rfl⟩
  obtain ⟨hT0, hTs⟩ := hT0
  generalize sidesL (restB hs (mid hs)) hs.length = S at *
  have HP := Lib.hid hpt
  have T1 := Lib.hid hb
  clear htm ho hb hck hpt ha hA hT1 hT2 hTne
  go_wp2_with fail
  refine (HR.out w1 HP.out).mono ?_
  rintro e w2 ⟨v1, rfl, o1, hb⟩
  have HP2 := Lib.hid (HP.out.grow hb)
  have T2 := Lib.hid (Below.andThen T1.out hb (Nat.le_refl _))
  have R2 := Lib.hid o1
  clear hb T1 HP HR
  go_wp2_with fail
  refine (HA.out w2 HP2.out).mono ?_
  rintro e w3 ⟨v2, rfl, o2, hb⟩
  have HP3 := Lib.hid (HP2.out.grow hb)
  have T3 := Lib.hid (Below.andThen T2.out hb (Nat.le_refl _))
  have R3 := Lib.hid (own_grow R2.out hb)
  have A3 := Lib.hid o2
  obtain ⟨g2, c3, rfl, hg2, hi2⟩ : ∃ g2 c3, v1 = .slice (some ⟨g2, 0, none⟩) T.length c3 ∧ g2 < w3.heap.size ∧ IntsAt w3 g2 0 (T.map Int.ofNat) := by
    have h := R3.out
    rw [show T.length = (T.map Int.ofNat).length from (List.length_map ..).symm] at h
    rcases oints h with ⟨h0, _⟩ | ⟨g2, c3, h1, h2, _, h3⟩
    · have := congrArg List.length h0; rw [List.length_map, List.length_nil] at this; omega
    · exact ⟨g2, c3, by rw [h1, List.length_map], h2, h3⟩
  have I3 := Lib.hid (And.intro hg2 hi2)
  have c0 := hi2.at_ 0 (by rw [List.length_map]; exact hT0)
  rw [Nat.zero_add, List.getElem_map, hTs] at c0
  have dS : decide (T.length < 1) = false := decide_eq_false (by omega)
  have dS2 : decide ((T.length : Int) < 1) = false := decide_eq_false (by omega)
  have dS3 : decide ((hs.length : Int) < (T.length : Int)) = false := decide_eq_false (by omega)
  have dS4 : decide (hs.length < T.length) = false := decide_eq_false (by omega)
  clear hb T2 HP2 HA R2 o1 o2 hg2 hi2
  go_wp2_with fail
  clear c0 dS dS2 dS3 dS4
  go_loopw [14] (fun i wr => ∃ k : Nat, k ≤ T.length ∧ i = .int .i64 (k : Int) ∧ Hid (Below w3.heap.size w3 wr)) (fun i _ => T.length - (intOf i).toNat)
  case atStart => exact ⟨0, by omega, rfl, Lib.hid (Below.refl _ _)⟩
  case round =>
    obtain ⟨k, hk, rfl, HB⟩ := hrel
    by_cases hlt : k < T.length
    · have hd : decide ((k : Int) < (T.length : Int)) = true := decide_eq_true (by omega)
      obtain ⟨t1, t2, t3⟩ := HAT.out k hlt
      have ck := below_at HB.out I3.out.1 (I3.out.2.at_ k (by rw [List.length_map]; exact hlt))
      rw [Nat.zero_add, List.getElem_map] at ck
      have HMK := HMS.out T[k] t1
      rw [t2] at HMK
      obtain ⟨r, hr⟩ : ∃ r, decide (k + 1 = T.length) = r := ⟨_, rfl⟩
      rw [hr] at HMK
      have er1 : ((k : Int) == (T.length : Int) - 1) = r := by rw [← hr]; exact Bool.eq_iff_iff.2 (by simp; omega)
      have er2 : decide ((k : Int) = (T.length : Int) - 1) = r := by rw [← hr]; exact decide_eq_decide.2 (by omega)
      have ew : IntKind.i64.wrap ((T.length : Int) - 1) = (T.length : Int) - 1 := i64_of _ (by omega) (by omega)
      have HN1 := Lib.hid (fun W h => HN.out W T[k] h t1)
      have ok1 := Lib.hid (HOK.out T[k] t1)
      have pr1 := Lib.hid (HPR.out T[k] t1)
      have T3' := Lib.hid (fun h0 => (t3 h0))
      have HTK := Lib.hid (show ∀ z, z < hs.length → decide ((leanF hs (mid hs) T[k]).1 * (leanF hs (mid hs) z).2 < (leanF hs (mid hs) z).1 * (leanF hs (mid hs) T[k]).2) = decide (Low hs (mid hs) T[k] z) from fun z hz => HLE.out T[k] z t1 hz)
      have hpos : decide (((T[k] : Nat) : Int) < 0) = false := decide_eq_false (by omega)
      have hge : decide ((hs.length : Int) ≤ ((T[k] : Nat) : Int)) = false := decide_eq_false (by omega)
      have hge2 : decide (hs.length ≤ T[k]) = false := decide_eq_false (by omega)
      have hk0 : T[k] = T[k] := rfl
      generalize htk : T[k] = t at *
      have HH := has_any S (t : Int) wr (own_grow A3.out HB.out) lS.out
      rw [HMK] at HH
      clear hr t2 HMK hk0
      go_wp2_with fail
      refine HH.mono ?_
      rintro e w4 ⟨rfl, hb⟩
      have HB4 := Lib.hid (Below.andThen HB.out hb (Nat.le_refl _))
      have ck4 := below_at hb (Nat.lt_of_lt_of_le I3.out.1 HB.out.size) ck
      clear hb HH HB ck
      by_cases hk0 : k = 0
      · have d0 : ((k : Int) == 0) = true := by simp [hk0]
        have d0' : (k == 0) = true := by simp [hk0]
        clear hk0
        go_wp2_with fail
        go_roundw
        case rel => exact ⟨k + 1, by omega, by simp, HB4⟩
        case measure => simp [intOf]; omega
      · have d0 : ((k : Int) == 0) = false := by simp [hk0]
        have d0' : (k == 0) = false := by simp [hk0]
        have hk1 : k - 1 < T.length := by omega
        obtain ⟨l1, l2⟩ := T3'.out (by omega)
        have z1 := (HAT.out (k - 1) hk1).1
        have cz := below_at HB4.out I3.out.1 (I3.out.2.at_ (k - 1) (by rw [List.length_map]; exact hk1))
        rw [Nat.zero_add, List.getElem_map] at cz
        have HN2 := Lib.hid (fun W h => HN.out W T[k - 1] h z1)
        have ok2 := Lib.hid (HOK.out T[k - 1] z1)
        have pr2 := Lib.hid (HPR.out T[k - 1] z1)
        have HTZ := HTK.out T[k - 1] z1
        have e1 : IntKind.i64.wrap ((k : Int) - 1) = ((k - 1 : Nat) : Int) := by rw [i64_of _ (by omega) (by omega)]; omega
        have e2 : (k : Int) - 1 = ((k - 1 : Nat) : Int) := by omega
        generalize T[k - 1] = z at *
        rw [decide_eq_true l1] at HTZ
        obtain ⟨⟨a1, a2⟩, hla⟩ : ∃ v, leanF hs (mid hs) t = v := ⟨_, rfl⟩
        obtain ⟨⟨b1, b2⟩, hlb⟩ : ∃ v, leanF hs (mid hs) z = v := ⟨_, rfl⟩
        rw [hla] at HTZ HN1 ok1 pr1
        rw [hlb] at HTZ HN2 ok2 pr2
        dsimp only at HTZ HN1 HN2 ok1 ok2 pr1 pr2
        have HLS := Lib.hid (fun W => rLess_any _ a1 a2 b1 b2 W (Nat.le_refl _) pr1.out.1 (by have := pr1.out; omega) pr1.out.2.2.1 (by have := pr1.out; omega) pr2.out.1 (by have := pr2.out; omega) pr2.out.2.2.1 (by have := pr2.out; omega))
        rw [HTZ] at HLS
        have LL := Lib.hid l2
        clear l1 l2 hla hlb HTZ HTK T3' er2 t3 hk1
        generalize hkk : k - 1 = kk at *
        clear hkk
        go_wp2_with fail
        refine (HN2.out w4 (HP3.out.grow HB4.out)).mono ?_
        rintro e w5 ⟨rfl, hb⟩
        obtain ⟨V5, hV5⟩ : ∃ V, V = w5.alloc (.cells #[.int .i64 b1, .int .i64 b2] 39) := ⟨_, rfl⟩
        have hb5 : Below w4.heap.size w4 V5 := by rw [hV5]; exact Below.al hb (Nat.le_refl _) _
        have HB5 := Lib.hid (Below.andThen HB4.out hb5 (Nat.le_refl _))
        have r5 := Lib.hid (show Row V5 w5.heap.size 39 [.int .i64 b1, .int .i64 b2] by rw [hV5]; exact Row.new _ _ _)
        have ck5 := below_at hb5 (Nat.lt_of_lt_of_le I3.out.1 HB4.out.size) ck4
        have cz5 := below_at hb5 (Nat.lt_of_lt_of_le I3.out.1 HB4.out.size) cz
        clear hb hb5 ck4 cz
        rw [hV5] at ck5 cz5
        go_wp2_with fail
        rw [← hV5] at ck5 cz5 ⊢
        clear hV5
        refine (HN1.out V5 (HP3.out.grow HB5.out)).mono ?_
        rintro e w6 ⟨rfl, hb⟩
        obtain ⟨V6, hV6⟩ : ∃ V, V = w6.alloc (.cells #[.int .i64 a1, .int .i64 a2] 39) := ⟨_, rfl⟩
        have hb6 : Below V5.heap.size V5 V6 := by rw [hV6]; exact Below.al hb (Nat.le_refl _) _
        have HB6 := Lib.hid (Below.andThen HB5.out hb6 (Nat.le_refl _))
        have r6 := Lib.hid (show Row V6 w6.heap.size 39 [.int .i64 a1, .int .i64 a2] by rw [hV6]; exact Row.new _ _ _)
        have r5' := Lib.hid (r5.out.below hb6 r5.out.lt)
        have ck6 := below_at hb6 (Nat.lt_of_lt_of_le I3.out.1 HB5.out.size) ck5
        have cz6 := below_at hb6 (Nat.lt_of_lt_of_le I3.out.1 HB5.out.size) cz5
        obtain ⟨u0, u1, _, _⟩ := two_cells r5'.out
        obtain ⟨u2, u3, _, _⟩ := two_cells r6.out
        clear hb hb6 ck5 cz5
        rw [hV6] at ck6 cz6 u0 u1 u2 u3
        go_wp2_with fail
        rw [← hV6] at ck6 cz6 u0 u1 u2 u3 ⊢
        clear hV6
        have x0 := Kl.cell r5'.out.lt u0
        have x1 := Kl.cell r5'.out.lt u1
        have x2 := Kl.cell r6.out.lt u2
        have x3 := Kl.cell r6.out.lt u3
        have x4 := Kl.cell (cell_lt ck6) ck6
        have x5 := Kl.cell (cell_lt cz6) cz6
        have OA := Lib.hid (fun W => lean58_any a1 a2 W ok1.out.1 ok1.out.2.1 ok1.out.2.2.1 ok1.out.2.2.2)
        have OB := Lib.hid (fun W => lean58_any b1 b2 W ok2.out.1 ok2.out.2.1 ok2.out.2.2.1 ok2.out.2.2.2)
        have w1' : IntKind.i64.wrap ((z : Int) + 1) = (z : Int) + 1 := i64_of _ (by omega) (by omega)
        have w2' : IntKind.i64.wrap ((t : Int) + 1) = (t : Int) + 1 := i64_of _ (by omega) (by omega)
        clear u0 u1 u2 u3 ck6 cz6
        by_cases hA : t = (z + 1) % hs.length
        · have m2 : ((z : Int) + 1) % (hs.length : Int) = (t : Int) := by rw [hA, Int.natCast_emod]; rfl
          have m1 : ((z : Int) + 1).tmod (hs.length : Int) = (t : Int) := by rw [Int.tmod_eq_emod_of_nonneg (by omega)]; exact m2
          clear hA LL
          refine wp_region_below (by kernel_rfl) (by kernel_rfl) ?_
          iterate 8 (go_big_quiet_step (fail))
          go_big_quiet_step (first | (go_at_call 58; exact Kl.call (OB.out _)))
          iterate 4 (go_big_quiet_step (fail))
          go_big_quiet_step (first | (go_at_call 58; exact Kl.call (OA.out _)))
          iterate 5 (go_big_quiet_step (fail))
          go_big_quiet_step (first | (go_at_call 59; exact Kl.call (HLS.out _)))
          repeat (go_big_quiet_step (fail))
          refine wpQuiet_nil ?_
          rintro _ ⟨wq, rfl⟩
          have HB7 := Lib.hid (Below.andThen HB6.out wq.h (Nat.le_refl _))
          generalize wq.W = w7 at *
          clear x0 x1 x2 x3 x4 x5
          go_wp2_with fail
          go_roundw
          case rel => exact ⟨k + 1, by omega, by simp, HB7⟩
          case measure => simp [intOf]; omega
        · have hB : z = (t + 1) % hs.length := LL.out.resolve_left hA
          obtain ⟨y, hy⟩ : ∃ y, (z + 1) % hs.length = y := ⟨_, rfl⟩
          have m2 : ((z : Int) + 1) % (hs.length : Int) = (y : Int) := by rw [← hy, Int.natCast_emod]; rfl
          have m1 : ((z : Int) + 1).tmod (hs.length : Int) = (y : Int) := by rw [Int.tmod_eq_emod_of_nonneg (by omega)]; exact m2
          have m4 : ((t : Int) + 1) % (hs.length : Int) = (z : Int) := by rw [hB, Int.natCast_emod]; rfl
          have m3 : ((t : Int) + 1).tmod (hs.length : Int) = (z : Int) := by rw [Int.tmod_eq_emod_of_nonneg (by omega)]; exact m4
          rw [hy] at hA
          have dd : ((t : Int) != (y : Int)) = true := by simp; omega
          have dd2 : (t != y) = true := by simp; omega
          clear hA hB LL hy
          refine wp_region_below (by kernel_rfl) (by kernel_rfl) ?_
          iterate 8 (go_big_quiet_step (fail))
          go_big_quiet_step (first | (go_at_call 58; exact Kl.call (OB.out _)))
          iterate 4 (go_big_quiet_step (fail))
          go_big_quiet_step (first | (go_at_call 58; exact Kl.call (OA.out _)))
          iterate 5 (go_big_quiet_step (fail))
          go_big_quiet_step (first | (go_at_call 59; exact Kl.call (HLS.out _)))
          repeat (go_big_quiet_step (fail))
          refine wpQuiet_nil ?_
          rintro _ ⟨wq, rfl⟩
          have HB7 := Lib.hid (Below.andThen HB6.out wq.h (Nat.le_refl _))
          generalize wq.W = w7 at *
          clear x0 x1 x2 x3 x4 x5
          go_wp2_with fail
          go_roundw
          case rel => exact ⟨k + 1, by omega, by simp, HB7⟩
          case measure => simp [intOf]; omega
    · have hd : decide ((k : Int) < (T.length : Int)) = false := decide_eq_false (by omega)
      go_wp2_with fail
      refine (awake_any _).mono ?_
      rintro e w8 ⟨rfl, hb⟩
      have T8 := Lib.hid (Below.andThen T3.out (Below.andThen HB.out hb (Nat.le_refl _)) (Nat.le_refl _))
      clear hb
      go_wp2_with fail
      go_ret
      exact ⟨rfl, T8.out⟩
end Go.Proofs.Ytlehddifcjklgaa
