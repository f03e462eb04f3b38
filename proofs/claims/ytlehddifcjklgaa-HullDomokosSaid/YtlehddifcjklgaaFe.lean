import Derived.Test.YtlehddifcjklgaaFd
import Derived.Maps.OwnIn
import Derived.Maps.OwnSet
import Derived.Maps.AppendAt
import Derived.RangeFuncNested
import Derived.RangeFuncBound
import Derived.RangeFuncCalls
import Derived.RangeFuncLeaves
import Derived.Shelf.Abstract
import Derived.Shelf.RegionOpen
import Derived.WalkKit
import Derived.OwnWalkIn
import Derived.TacticsInMore
import Derived.LoopNIn
import Derived.LoopIn
import Derived.WalkMore
import Derived.Sort.QuietThIn
import Derived.Sort.QuietTacIn
import Derived.Sort.BigQuietIn
import Derived.WalkSpells
import Derived.WalkLawsBesides
import Derived.BigQuiet
import Derived.Deep.QuietTactic
import Derived.Lib.Hide
import Derived.Deep.RegionHeld3
import Derived.StillTailTactics
import Derived.Deep.LoopGhost
import Derived.Lib.IndexAny
namespace Go.Proofs.Ytlehddifcjklgaa
open Go.RowKit Go.Shelf
attribute [local go_sem] Oper.semAt_some
set_option maxRecDepth 100000 in
set_option maxHeartbeats 1000000 in
theorem HullDomokos_any (ps : List Pt) (a : Option Addr) (c : Nat) (fr : Int) (w : World) (hp : PtsA w a ps c) (_hc : ps.length ≤ c) (_hn : a = none → c = 0) (hl : ps.length ≤ maxLen) (hz : ∀ q ∈ ps, InI q.1 ∧ InI q.2) (_hi : InI fr) :
    Calls Try.prog 12 #[.slice a ps.length c, .int .i64 fr] w fun e w' => e = .returned (.bool true) ∧ Below w.heap.size w w' := by
  have htm := tame_any ps a c fr w hp hl hz
  clear hp _hc _hn hl hz _hi
  go_enter Try.func12, Try.ntmps12
  go_wp2_with fail
  refine htm.mono ?_
  rintro e w1 ⟨v, hs, rfl, ho, hck, hb⟩
  have ha := chk_areP hck
  have hA := chk_area hck
  obtain ⟨h3, h12⟩ := areP_len ha
  obtain ⟨g, c2, rfl, hpt⟩ : ∃ g c2, v = .slice (some ⟨g, 0, none⟩) hs.length c2 ∧ PtsAt w1 g 0 hs := by
    obtain ⟨a2, c2, rfl, h⟩ := ho.open
    rcases h with ⟨_, _, rfl⟩ | ⟨g, hg, rfl, h, _⟩
    · simp at h3
    · exact ⟨g, c2, rfl, h⟩
  have HR := Lib.hid (fun W (h : PtsAt W g 0 hs) => Rests_any hs g c2 W h hck hA)
  have HF := Lib.hid (fun W (h : PtsAt W g 0 hs) => Firm_any hs g c2 W h hck hA)
  have HT := Lib.hid (fun W (h : PtsAt W g 0 hs) => Tips_any hs g c2 W h hck hA)
  have HW := Lib.hid (fun W (h : PtsAt W g 0 hs) => Lowest_any hs g c2 W h hck)
  have HN := Lib.hid (fun W t (h : PtsAt W g 0 hs) (ht : t < hs.length) => Lean_any hs g c2 t W h hck hA ht)
  have HOK := Lib.hid (fun t (ht : t < hs.length) => lean_ok hck ht)
  have HPR := Lib.hid (fun t (ht : t < hs.length) => lean_parts hck ht)
  have HLE := Lib.hid (fun s t (hs' : s < hs.length) (ht : t < hs.length) => low_lean (m := mid hs) (mid_D hck) (along_pos hck hs') (along_pos hck ht))
  obtain ⟨k, hk⟩ : ∃ k, lowN hs (mid hs) hs.length = k := ⟨_, rfl⟩
  have hkl : k < hs.length := by rw [← hk]; exact lowN_lt hs (mid hs) hs.length (by omega)
  have hleast : ∀ t, t < hs.length → ¬ Low hs (mid hs) t k := by rw [← hk]; exact lowN_least hck hs.length (Nat.le_refl _)
  have HLS := Lib.hid hleast
  have HFS := Lib.hid (show ∀ t, t < k → Low hs (mid hs) k t by rw [← hk]; exact lowN_first hck hs.length (Nat.le_refl _))
  have hfk := lowest_firm hck hkl hleast
  obtain ⟨k2, hk2, hkne, hfk2⟩ := two_firm hck hkl hleast
  have n2 := two_count hkl hk2 (fun e => hkne e.symm) hfk hfk2
  have n3 := tips_firms hck
  have n4 := rests_ge hs (mid hs) hs.length
  have n5 := sidesL_length (restB hs (mid hs)) hs.length
  have hin : decide (((k : Nat) : Int) ∈ sidesL (firmB hs (mid hs)) hs.length) = true := by rw [mem_sides hkl]; exact hfk
  have hsub : ∀ z ∈ sidesL (firmB hs (mid hs)) hs.length, z ∈ sidesL (restB hs (mid hs)) hs.length := by
    intro z hz
    unfold sidesL at hz ⊢
    obtain ⟨i, hi, rfl⟩ := List.mem_map.1 hz
    obtain ⟨h1, h2⟩ := List.mem_filter.1 hi
    exact List.mem_map.2 ⟨i, List.mem_filter.2 ⟨h1, firm_rest h2⟩, rfl⟩
  have HSUB := Lib.hid hsub
  have HIN := Lib.hid hin
  rw [hk] at HW
  have HP := Lib.hid hpt
  have T1 := Lib.hid hb
  clear htm ho hb hck hpt ha hA hleast hfk hfk2 hsub hin hk2 hkne hk
  generalize sidesL (restB hs (mid hs)) hs.length = SA at *
  generalize sidesL (firmB hs (mid hs)) hs.length = SB at *
  generalize sidesL (tipB hs (mid hs)) hs.length = SC at *
  have HLEN := Lib.hid (show 2 ≤ SB.length ∧ SC.length = SB.length ∧ SB.length ≤ SA.length ∧ SA.length ≤ 12 from ⟨n2, n3, n4, by omega⟩)
  clear n2 n3 n4 n5
  go_wp2_with fail
  refine (HR.out w1 HP.out).mono ?_
  rintro e w2 ⟨v1, rfl, o1, hb⟩
  have HP2 := Lib.hid (HP.out.grow hb)
  have T2 := Lib.hid (Below.andThen T1.out hb (Nat.le_refl _))
  have R2 := Lib.hid o1
  clear hb T1 HP HR o1
  go_wp2_with fail
  refine (HF.out w2 HP2.out).mono ?_
  rintro e w3 ⟨v2, rfl, o2, hb⟩
  have HP3 := Lib.hid (HP2.out.grow hb)
  have T3 := Lib.hid (Below.andThen T2.out hb (Nat.le_refl _))
  have R3 := Lib.hid (own_grow R2.out hb)
  have F3 := Lib.hid o2
  clear hb T2 HP2 HF o2 R2
  go_wp2_with fail
  refine (HT.out w3 HP3.out).mono ?_
  rintro e w4 ⟨v3, rfl, o3, hb⟩
  have HP4 := Lib.hid (HP3.out.grow hb)
  have T4 := Lib.hid (Below.andThen T3.out hb (Nat.le_refl _))
  have R4 := Lib.hid (own_grow R3.out hb)
  have F4 := Lib.hid (own_grow F3.out hb)
  obtain ⟨a3, c3, rfl⟩ : ∃ a3 c3, v3 = .slice a3 SB.length c3 := by
    rcases oints o3 with ⟨h0, _⟩ | ⟨g2, c3, h1, h2, _, h3⟩
    · have := HLEN.out; rw [h0, List.length_nil] at this; omega
    · exact ⟨_, c3, by rw [h1, HLEN.out.2.1]⟩
  clear hb T3 HP3 HT o3 R3 F3
  go_wp2_with fail
  refine (HW.out w4 HP4.out).mono ?_
  rintro e w5 ⟨rfl, hb⟩
  have HP5 := Lib.hid (HP4.out.grow hb)
  have T5 := Lib.hid (Below.andThen T4.out hb (Nat.le_refl _))
  have R5 := Lib.hid (own_grow R4.out hb)
  have F5 := Lib.hid (own_grow F4.out hb)
  clear hb T4 HP4 HW R4 F4
  obtain ⟨g1, c1, rfl, hg1, hi1⟩ : ∃ g1 c1, v1 = .slice (some ⟨g1, 0, none⟩) SA.length c1 ∧ g1 < w5.heap.size ∧ IntsAt w5 g1 0 SA := by
    rcases oints R5.out with ⟨h0, _⟩ | ⟨g2, c3, h1, h2, _, h3⟩
    · have := HLEN.out; rw [h0, List.length_nil] at this; omega
    · exact ⟨g2, c3, h1, h2, h3⟩
  obtain ⟨g2, c4, rfl, hg2, hi2⟩ : ∃ g1 c1, v2 = .slice (some ⟨g1, 0, none⟩) SB.length c1 ∧ g1 < w5.heap.size ∧ IntsAt w5 g1 0 SB := by
    rcases oints F5.out with ⟨h0, _⟩ | ⟨g2, c3, h1, h2, _, h3⟩
    · have := HLEN.out; rw [h0] at this; simp at this
    · exact ⟨g2, c3, h1, h2, h3⟩
  have I5 := Lib.hid (And.intro hg2 hi2)
  have HHB := has_any SB (k : Int) w5 F5.out (by have := HLEN.out; omega)
  rw [HIN.out] at HHB
  have HHB := Lib.hid HHB
  have d1 : decide ((SB.length : Int) < 2) = false := decide_eq_false (by have := HLEN.out; omega)
  have d2 : decide ((SA.length : Int) < (SB.length : Int)) = false := decide_eq_false (by have := HLEN.out; omega)
  have l2 : SB.length ≤ SA.length := HLEN.out.2.2.1
  have l3 : 2 ≤ SB.length := HLEN.out.1
  clear hi1 hi2 hg2 HIN
  go_wp2_with fail
  refine HHB.out.mono ?_
  rintro e w6 ⟨rfl, hb⟩
  have HP6 := Lib.hid (HP5.out.grow hb)
  have T6 := Lib.hid (Below.andThen T5.out hb (Nat.le_refl _))
  have R6 := Lib.hid (own_grow R5.out hb)
  have I6 := Lib.hid (show g2 < w6.heap.size ∧ IntsAt w6 g2 0 SB from ⟨Nat.lt_of_lt_of_le I5.out.1 hb.size, I5.out.2.below hb I5.out.1⟩)
  clear hb T5 HP5 R5 F5 HHB I5 d1 d2 hg1
  go_wp2_with fail
  have l12 : SB.length ≤ 12 := by have := HLEN.out; omega
  rw [show decide (SA.length < SB.length) = false from decide_eq_false (by omega)]
  clear l2
  go_loopw [14] (fun i wr => ∃ j : Nat, j ≤ SB.length ∧ i = .int .i64 (j : Int) ∧ Hid (Below w6.heap.size w6 wr)) (fun i _ => SB.length - (intOf i).toNat)
  case atStart => exact ⟨0, by omega, rfl, Lib.hid (Below.refl _ _)⟩
  case round =>
    obtain ⟨j, hj, rfl, HB⟩ := hrel
    by_cases hlt : j < SB.length
    · have hd : decide ((j : Int) < (SB.length : Int)) = true := decide_eq_true (by omega)
      have hd' : decide (j < SB.length) = true := decide_eq_true hlt
      have cj := below_at HB.out I6.out.1 (I6.out.2.at_ j hlt)
      rw [Nat.zero_add] at cj
      have HH := has_any SA SB[j] wr (own_grow R6.out HB.out) (by have := HLEN.out; omega)
      rw [decide_eq_true (HSUB.out _ (List.getElem_mem hlt))] at HH
      have HH := Lib.hid HH
      have hjw : IntKind.i64.wrap ((j : Int) + 1) = (j : Int) + 1 := i64_of _ (by omega) (by omega)
      generalize SB[j] = z at *
      go_wp2_with fail
      refine HH.out.mono ?_
      rintro e w7 ⟨rfl, hb⟩
      have HB7 := Lib.hid (Below.andThen HB.out hb (Nat.le_refl _))
      clear hb HH HB cj
      go_wp2_with fail
      go_roundw
      case rel => exact ⟨j + 1, by omega, by simp, HB7⟩
      case measure => simp [intOf]; omega
    · have hd : decide ((j : Int) < (SB.length : Int)) = false := decide_eq_false (by omega)
      have HP7 := Lib.hid (HP6.out.grow HB.out)
      have T7 := Lib.hid (Below.andThen T6.out HB.out (Nat.le_refl _))
      have H1 := Lib.hid (HN.out wr k HP7.out hkl)
      obtain ⟨o1, o2, o3, o4⟩ := HOK.out k hkl
      have HOKk := Lib.hid (fun W => lean58_any (leanF hs (mid hs) k).1 (leanF hs (mid hs) k).2 W o1 o2 o3 o4)
      have HPRk := Lib.hid (HPR.out k hkl)
      have HLEk := Lib.hid (fun t (ht : t < hs.length) => And.intro (HLE.out k t hkl ht) (HLE.out t k ht hkl))
      clear HB T6 HP6 I6 R6 o1 o2 o3 o4 HLE
      generalize hlk : leanF hs (mid hs) k = lk at *
      clear hlk
      obtain ⟨lk1, lk2⟩ := lk
      dsimp only at *
      go_wp2_with fail
      refine H1.out.mono ?_
      rintro e w7 ⟨rfl, hb⟩
      have HP8 := Lib.hid (HP7.out.grow hb)
      have T8 := Lib.hid (Below.andThen T7.out hb (Nat.le_refl _))
      clear hb HP7 T7 H1
      go_wp2_with fail
      refine (HOKk.out _).mono ?_
      rintro e w8 ⟨rfl, hb⟩
      have hba := Below.alloc (Below.refl w7.heap.size w7) (Nat.le_refl _) (.cells #[.int .i64 lk1, .int .i64 lk2] 39)
      have hb2 := Below.andThen hba hb (Nat.le_refl _)
      have HP9 := Lib.hid (HP8.out.grow hb2)
      have T9 := Lib.hid (Below.andThen T8.out hb2 (Nat.le_refl _))
      have r0 : Row (w7.alloc (.cells #[.int .i64 lk1, .int .i64 lk2] 39)) w7.heap.size 39 [.int .i64 lk1, .int .i64 lk2] := Row.new _ _ _
      have RL := Lib.hid (r0.below hb r0.lt)
      clear hb HP8 T8 hba hb2 r0
      generalize w7.heap.size = bl at *
      go_wp2_with fail
      go_loopw [17] (fun i wr => ∃ t : Nat, t ≤ hs.length ∧ i = .int .i64 (t : Int) ∧ Hid (Below w8.heap.size w8 wr)) (fun i _ => hs.length - (intOf i).toNat)
      case atStart => exact ⟨0, by omega, rfl, Lib.hid (Below.refl _ _)⟩
      case round =>
        obtain ⟨t, ht, rfl, HB⟩ := hrel
        by_cases hlt2 : t < hs.length
        · have hd2 : decide ((t : Int) < (hs.length : Int)) = true := decide_eq_true (by omega)
          have hd3 : decide (t < hs.length) = true := decide_eq_true (by omega)
          have htw : IntKind.i64.wrap ((t : Int) + 1) = (t : Int) + 1 := i64_of _ (by omega) (by omega)
          have HN1 := Lib.hid (HN.out wr t (HP9.out.grow HB.out) hlt2)
          have ok1 := Lib.hid (HOK.out t hlt2)
          have pr1 := Lib.hid (HPR.out t hlt2)
          have HLs := HLEk.out t hlt2
          have hl1 := HLS.out t hlt2
          rw [decide_eq_false hl1] at HLs
          obtain ⟨⟨n1, n2⟩, hln⟩ : ∃ v, leanF hs (mid hs) t = v := ⟨_, rfl⟩
          rw [hln] at HLs HN1 ok1 pr1
          dsimp only at HLs HN1 ok1 pr1
          have LA := Lib.hid (fun W => rLess_any _ n1 n2 lk1 lk2 W (Nat.le_refl _) pr1.out.1 (by have := pr1.out; omega) pr1.out.2.2.1 (by have := pr1.out; omega) HPRk.out.1 (by have := HPRk.out; omega) HPRk.out.2.2.1 (by have := HPRk.out; omega))
          rw [HLs.2] at LA
          have LB := Lib.hid (fun W => rLess_any _ lk1 lk2 n1 n2 W (Nat.le_refl _) HPRk.out.1 (by have := HPRk.out; omega) HPRk.out.2.2.1 (by have := HPRk.out; omega) pr1.out.1 (by have := pr1.out; omega) pr1.out.2.2.1 (by have := pr1.out; omega))
          rw [HLs.1] at LB
          have OA := Lib.hid (fun W => lean58_any n1 n2 W ok1.out.1 ok1.out.2.1 ok1.out.2.2.1 ok1.out.2.2.2)
          clear hl1 hln HLs
          go_wp2_with fail
          refine HN1.out.mono ?_
          rintro e w9 ⟨rfl, hb⟩
          obtain ⟨V5, hV5⟩ : ∃ V, V = w9.alloc (.cells #[.int .i64 n1, .int .i64 n2] 39) := ⟨_, rfl⟩
          have hb5 : Below wr.heap.size wr V5 := by rw [hV5]; exact Below.al hb (Nat.le_refl _) _
          have HB5 := Lib.hid (Below.andThen HB.out hb5 (Nat.le_refl _))
          have r5 := Lib.hid (show Row V5 w9.heap.size 39 [.int .i64 n1, .int .i64 n2] by rw [hV5]; exact Row.new _ _ _)
          have rL5 := Lib.hid (RL.out.below HB5.out RL.out.lt)
          obtain ⟨u0, u1, _, _⟩ := two_cells rL5.out
          obtain ⟨u2, u3, _, _⟩ := two_cells r5.out
          clear hb hb5
          rw [hV5] at u0 u1 u2 u3
          go_wp2_with fail
          rw [← hV5] at u0 u1 u2 u3 ⊢
          clear hV5
          clear u0 u1 u2 u3
          refine (OA.out V5).mono ?_
          rintro e w10 ⟨rfl, hb⟩
          have HB6 := Lib.hid (Below.andThen HB5.out hb (Nat.le_refl _))
          have rL6 := Lib.hid (rL5.out.below hb rL5.out.lt)
          have r6 := Lib.hid (r5.out.below hb r5.out.lt)
          obtain ⟨u0, u1, _, _⟩ := two_cells rL6.out
          obtain ⟨u2, u3, _, _⟩ := two_cells r6.out
          clear hb HB5 rL5 r5 OA
          go_wp2_with fail
          clear u0 u1 u2 u3
          refine (LA.out w10).mono ?_
          rintro e w11 ⟨rfl, hb⟩
          have HB7 := Lib.hid (Below.andThen HB6.out hb (Nat.le_refl _))
          have rL7 := Lib.hid (rL6.out.below hb rL6.out.lt)
          have r7 := Lib.hid (r6.out.below hb r6.out.lt)
          obtain ⟨u0, u1, _, _⟩ := two_cells rL7.out
          obtain ⟨u2, u3, _, _⟩ := two_cells r7.out
          clear hb HB6 rL6 r6 LA
          by_cases htk : t < k
          · have hd5 : decide ((t : Int) < (k : Int)) = true := decide_eq_true (by omega)
            have hlb := LB.out w11
            rw [decide_eq_true (HFS.out t htk)] at hlb
            have hlb := Lib.hid hlb
            go_wp2_with fail
            clear u0 u1 u2 u3
            refine hlb.out.mono ?_
            rintro e w12 ⟨rfl, hb⟩
            have HB8 := Lib.hid (Below.andThen HB7.out hb (Nat.le_refl _))
            clear hb HB7 hlb LB
            go_wp2_with fail
            go_roundw
            case rel => exact ⟨t + 1, by omega, by simp, HB8⟩
            case measure => simp [intOf]; omega
          · have hd5 : decide ((t : Int) < (k : Int)) = false := decide_eq_false (by omega)
            go_wp2_with fail
            go_roundw
            case rel => exact ⟨t + 1, by omega, by simp, HB7⟩
            case measure => simp [intOf]; omega
        · have hd2 : decide ((t : Int) < (hs.length : Int)) = false := decide_eq_false (by omega)
          have T10 := Lib.hid (Below.andThen T9.out HB.out (Nat.le_refl _))
          go_wp2_with fail
          refine (awake_any _).mono ?_
          rintro e w9 ⟨rfl, hb⟩
          have T11 := Lib.hid (Below.andThen T10.out hb (Nat.le_refl _))
          clear hb T10
          go_wp2_with fail
          go_ret
          exact ⟨rfl, T11.out⟩
end Go.Proofs.Ytlehddifcjklgaa
