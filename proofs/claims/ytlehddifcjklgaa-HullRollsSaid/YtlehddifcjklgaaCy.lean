import Derived.Test.YtlehddifcjklgaaCx
import Derived.Test.YtlehddifcjklgaaTr
import Derived.Maps.OwnIn
import Derived.Maps.OwnSet
import Derived.Maps.AppendAt
import Derived.RangeFuncNested
import Derived.RangeFuncBound
import Derived.RangeFuncCalls
import Derived.RangeFuncLeaves
import Derived.Shelf.Abstract
import Derived.Shelf.RegionOpen
import Derived.WalkKit
import Derived.OwnWalkIn
import Derived.TacticsInMore
import Derived.LoopNIn
import Derived.LoopIn
import Derived.WalkMore
import Derived.Sort.QuietThIn
import Derived.Sort.QuietTacIn
import Derived.Sort.BigQuietIn
import Derived.WalkSpells
import Derived.WalkLawsBesides
import Derived.BigQuiet
import Derived.Deep.QuietTactic
import Derived.Lib.Hide
import Derived.Deep.RegionHeld3
import Derived.StillTailTactics
import Derived.Deep.LoopGhost
import Derived.Lib.IndexAny
namespace Go.Proofs.Ytlehddifcjklgaa
open Go.RowKit Go.Shelf
attribute [local go_sem] Oper.semAt_some
theorem len34 {vs : List Value} (h : vs.length = 34) : ∃ x0 x1 x2 x3 x4 x5 x6 x7 x8 x9 x10 x11 x12 x13 x14 x15 x16 x17 x18 x19 x20 x21 x22 x23 x24 x25 x26 x27 x28 x29 x30 x31 x32 x33, vs = [x0, x1, x2, x3, x4, x5, x6, x7, x8, x9, x10, x11, x12, x13, x14, x15, x16, x17, x18, x19, x20, x21, x22, x23, x24, x25, x26, x27, x28, x29, x30, x31, x32, x33] := by
  obtain ⟨x0, r0, rfl, h0⟩ := len_cons h
  obtain ⟨x1, r1, rfl, h1⟩ := len_cons h0
  obtain ⟨x2, r2, rfl, h2⟩ := len_cons h1
  obtain ⟨x3, r3, rfl, h3⟩ := len_cons h2
  obtain ⟨x4, r4, rfl, h4⟩ := len_cons h3
  obtain ⟨x5, r5, rfl, h5⟩ := len_cons h4
  obtain ⟨x6, r6, rfl, h6⟩ := len_cons h5
  obtain ⟨x7, r7, rfl, h7⟩ := len_cons h6
  obtain ⟨x8, r8, rfl, h8⟩ := len_cons h7
  obtain ⟨x9, r9, rfl, h9⟩ := len_cons h8
  obtain ⟨x10, r10, rfl, h10⟩ := len_cons h9
  obtain ⟨x11, r11, rfl, h11⟩ := len_cons h10
  obtain ⟨x12, r12, rfl, h12⟩ := len_cons h11
  obtain ⟨x13, r13, rfl, h13⟩ := len_cons h12
  obtain ⟨x14, r14, rfl, h14⟩ := len_cons h13
  obtain ⟨x15, r15, rfl, h15⟩ := len_cons h14
  obtain ⟨x16, r16, rfl, h16⟩ := len_cons h15
  obtain ⟨x17, r17, rfl, h17⟩ := len_cons h16
  obtain ⟨x18, r18, rfl, h18⟩ := len_cons h17
  obtain ⟨x19, r19, rfl, h19⟩ := len_cons h18
  obtain ⟨x20, r20, rfl, h20⟩ := len_cons h19
  obtain ⟨x21, r21, rfl, h21⟩ := len_cons h20
  obtain ⟨x22, r22, rfl, h22⟩ := len_cons h21
  obtain ⟨x23, r23, rfl, h23⟩ := len_cons h22
  obtain ⟨x24, r24, rfl, h24⟩ := len_cons h23
  obtain ⟨x25, r25, rfl, h25⟩ := len_cons h24
  obtain ⟨x26, r26, rfl, h26⟩ := len_cons h25
  obtain ⟨x27, r27, rfl, h27⟩ := len_cons h26
  obtain ⟨x28, r28, rfl, h28⟩ := len_cons h27
  obtain ⟨x29, r29, rfl, h29⟩ := len_cons h28
  obtain ⟨x30, r30, rfl, h30⟩ := len_cons h29
  obtain ⟨x31, r31, rfl, h31⟩ := len_cons h30
  obtain ⟨x32, r32, rfl, h32⟩ := len_cons h31
  obtain ⟨x33, r33, rfl, h33⟩ := len_cons h32
  obtain rfl := List.eq_nil_of_length_eq_zero h33
  exact ⟨_, _, _, _, _, _, _, _, _, _, _, _, _, _, _, _, _, _, _, _, _, _, _, _, _, _, _, _, _, _, _, _, _, _, rfl⟩
set_option maxRecDepth 100000 in
set_option maxHeartbeats 2000000 in
theorem HullRolls_any (ps : List Pt) (a : Option Addr) (c : Nat) (fr sd : Int) (w : World) (hp : PtsA w a ps c) (_hc : ps.length ≤ c) (_hn : a = none → c = 0) (hl : ps.length ≤ maxLen) (hz : ∀ q ∈ ps, InI q.1 ∧ InI q.2) (_hi : InI fr) (_hj : InI sd) :
    Calls Try.prog 6 #[.slice a ps.length c, .int .i64 fr, .int .i64 sd] w fun e w' => e = .returned (.bool true) ∧ Below w.heap.size w w' := by
  have htm := tame_any ps a c fr w hp hl hz
  clear hp _hc _hn hl hz _hi _hj
  go_enter Try.func6, Try.ntmps6
  go_wp2_with fail
  refine htm.mono ?_
  rintro e w1 ⟨v, hs, rfl, ho, hck, hb⟩
  have ha := chk_areP hck
  have hA := chk_area hck
  obtain ⟨h3, h12⟩ := areP_len ha
  obtain ⟨g, c2, rfl, hpt⟩ : ∃ g c2, v = .slice (some ⟨g, 0, none⟩) hs.length c2 ∧ PtsAt w1 g 0 hs := by
    obtain ⟨a2, c2, rfl, h⟩ := ho.open
    rcases h with ⟨_, _, rfl⟩ | ⟨g, hg, rfl, h, _⟩
    · simp at h3
    · exact ⟨g, c2, rfl, h⟩
  obtain ⟨s, hsl, hk1, hk2⟩ : ∃ k : Nat, k < hs.length ∧ wrap64 ((IntKind.u64.wrap sd).tmod (hs.length : Int)) = (k : Int) ∧ IntKind.i64.wrap ((IntKind.u64.wrap sd).tmod (hs.length : Int)) = (k : Int) := by
    have e2 : (IntKind.u64.wrap sd).tmod (hs.length : Int) = IntKind.u64.wrap sd % (hs.length : Int) := Int.tmod_eq_emod_of_nonneg (by rw [u64_wrap]; omega)
    have h1 := Int.emod_nonneg (IntKind.u64.wrap sd) (show (hs.length : Int) ≠ 0 by omega)
    have h2 := Int.emod_lt_of_pos (IntKind.u64.wrap sd) (show (0 : Int) < hs.length by omega)
    refine ⟨(IntKind.u64.wrap sd % (hs.length : Int)).toNat, by omega, ?_, ?_⟩
    · rw [e2, w64_of (by omega) (by omega)]; omega
    · rw [e2, i64_of _ (by omega) (by omega)]; omega
  obtain ⟨T, hT1, hT2, hT3⟩ := rollD_all hck hsl
  have HR := Lib.hid (fun W (h : PtsAt W g 0 hs) => Roll_any hs g c2 s hs.length (T.map Int.ofNat) W h hck hA hsl hT1 (by rw [List.length_map]; omega))
  have HN := Lib.hid (fun W (h : PtsAt W g 0 hs) => Lean_any hs g c2 s W h hck hA hsl)
  have HK := Lib.hid (fun W (h : PtsAt W g 0 hs) => Lowest_any hs g c2 W h hck)
  have QR := Lib.hid (fun W (h : PtsAt W g 0 hs) => rRoll_any hs g c2 s T W h hck hT2 (by omega))
  have QN := Lib.hid (fun W (h : PtsAt W g 0 hs) => rLean_any hs g c2 s W h hck hsl)
  have QK := Lib.hid (fun W (h : PtsAt W g 0 hs) => rLowest_any hs g c2 W h hck)
  have lT := Lib.hid (show (T.map Int.ofNat).length ≤ 1000 by rw [List.length_map]; omega)
  have q2 : ¬ ((hs.length : Int) = 0) := by omega
  have q3 : ¬ (hs.length = 0) := by omega
  have hu : IntKind.u64.wrap (hs.length : Int) = (hs.length : Int) := by rw [u64_wrap]; omega
  have q4 : ¬ (hs = []) := fun h => by subst h; simp at h3
  obtain ⟨⟨n1, n2⟩, hn⟩ : ∃ v, leanF hs (mid hs) s = v := ⟨_, rfl⟩
  rw [hn] at HN QN
  dsimp only at HN QN
  generalize lowN hs (mid hs) hs.length = L at *
  have eL : T.length = (T.map Int.ofNat).length := (List.length_map ..).symm
  rw [eL] at QR
  clear eL hT1 hT2 hT3
  generalize T.map Int.ofNat = TL at *
  have HP := Lib.hid hpt
  have T1 := Lib.hid hb
  clear htm ho hb hck hpt ha hA h3 h12 hn
  go_wp2_with fail
  refine (HR.out w1 HP.out).mono ?_
  rintro e w2 ⟨v1, rfl, o1, hb⟩
  have HP2 := Lib.hid (HP.out.grow hb)
  have T2 := Lib.hid (Below.andThen T1.out hb (Nat.le_refl _))
  have R2 := Lib.hid o1
  clear hb T1 HP HR o1
  go_wp2_with fail
  refine (HN.out w2 HP2.out).mono ?_
  rintro e w3 ⟨rfl, hb⟩
  obtain ⟨V, hV⟩ : ∃ V, V = w3.alloc (.cells #[.int .i64 n1, .int .i64 n2] 39) := ⟨_, rfl⟩
  have hb2 : Below w2.heap.size w2 V := by rw [hV]; exact Below.al hb (Nat.le_refl _) _
  have HP3 := Lib.hid (HP2.out.grow hb2)
  have T3 := Lib.hid (Below.andThen T2.out hb2 (Nat.le_refl _))
  have R3 := Lib.hid (own_grow R2.out hb2)
  have N3 := Lib.hid (show Row V w3.heap.size 39 [.int .i64 n1, .int .i64 n2] by rw [hV]; exact Row.new _ _ _)
  clear hb hb2 T2 HP2 HN R2
  go_wp2_with fail
  rw [← hV]
  clear hV
  refine (HK.out V HP3.out).mono ?_
  rintro e w4 ⟨rfl, hb⟩
  have HP4 := Lib.hid (HP3.out.grow hb)
  have T4 := Lib.hid (Below.andThen T3.out hb (Nat.le_refl _))
  have R4 := Lib.hid (own_grow R3.out hb)
  have N4 := Lib.hid (N3.out.below hb N3.out.lt)
  clear hb T3 HP3 HK R3 N3
  go_wp2_with fail
  refine wp_region_rel (by kernel_rfl) (by kernel_rfl) [42, 43, 44, 45, 46, 47, 48, 49, 50, 51, 52, 53, 54, 55, 56, 57, 58, 59, 60, 61, 62, 63, 64, 65, 66, 67, 68, 69, 70, 71, 72, 73, 74, 6] [LitR (.int .i64 0), LitR (.bool true), LitR (.bool true), LitR (v1), LitR (.slice (some ⟨g, 0, none⟩) hs.length c2), LitR (.int .i64 (s : Int)), (fun v W => W.ownsRow w4.heap.size 3 1 v TL.length (TL.map encI)), LitR (.bool true), LitR (.bool true), LitR (.bool true), LitR (.int .i64 0), LitR (.bool true), LitR (.bool true), LitR (.bool true), LitR (.agg #[.int .i64 n1, .int .i64 n2]), LitR (.slice (some ⟨g, 0, none⟩) hs.length c2), LitR (.int .i64 (s : Int)), LitR (.agg #[.int .i64 n1, .int .i64 n2]), LitR (.bool true), LitR (.bool true), LitR (.bool true), LitR (.int .i64 0), LitR (.bool true), LitR (.bool true), LitR (.bool true), LitR (.int .i64 (L : Int)), LitR (.slice (some ⟨g, 0, none⟩) hs.length c2), LitR (.int .i64 (L : Int)), LitR (.bool true), LitR (.bool true), LitR (.bool true), LitR (.bool true), LitR (.bool true), LitR (.bool true)] 34 rfl (List.forall_mem_cons.2 ⟨LitR.stab _, (List.forall_mem_cons.2 ⟨LitR.stab _, (List.forall_mem_cons.2 ⟨LitR.stab _, (List.forall_mem_cons.2 ⟨LitR.stab _, (List.forall_mem_cons.2 ⟨LitR.stab _, (List.forall_mem_cons.2 ⟨LitR.stab _, (List.forall_mem_cons.2 ⟨fun _ _ _ h hb => own_grow h hb, (List.forall_mem_cons.2 ⟨LitR.stab _, (List.forall_mem_cons.2 ⟨LitR.stab _, (List.forall_mem_cons.2 ⟨LitR.stab _, (List.forall_mem_cons.2 ⟨LitR.stab _, (List.forall_mem_cons.2 ⟨LitR.stab _, (List.forall_mem_cons.2 ⟨LitR.stab _, (List.forall_mem_cons.2 ⟨LitR.stab _, (List.forall_mem_cons.2 ⟨LitR.stab _, (List.forall_mem_cons.2 ⟨LitR.stab _, (List.forall_mem_cons.2 ⟨LitR.stab _, (List.forall_mem_cons.2 ⟨LitR.stab _, (List.forall_mem_cons.2 ⟨LitR.stab _, (List.forall_mem_cons.2 ⟨LitR.stab _, (List.forall_mem_cons.2 ⟨LitR.stab _, (List.forall_mem_cons.2 ⟨LitR.stab _, (List.forall_mem_cons.2 ⟨LitR.stab _, (List.forall_mem_cons.2 ⟨LitR.stab _, (List.forall_mem_cons.2 ⟨LitR.stab _, (List.forall_mem_cons.2 ⟨LitR.stab _, (List.forall_mem_cons.2 ⟨LitR.stab _, (List.forall_mem_cons.2 ⟨LitR.stab _, (List.forall_mem_cons.2 ⟨LitR.stab _, (List.forall_mem_cons.2 ⟨LitR.stab _, (List.forall_mem_cons.2 ⟨LitR.stab _, (List.forall_mem_cons.2 ⟨LitR.stab _, (List.forall_mem_cons.2 ⟨LitR.stab _, (List.forall_mem_cons.2 ⟨LitR.stab _, (fun _ h => nomatch h)⟩)⟩)⟩)⟩)⟩)⟩)⟩)⟩)⟩)⟩)⟩)⟩)⟩)⟩)⟩)⟩)⟩)⟩)⟩)⟩)⟩)⟩)⟩)⟩)⟩)⟩)⟩)⟩)⟩)⟩)⟩)⟩)⟩)⟩) ⟨[undef, undef, undef, undef, undef, undef, undef, undef, undef, undef, undef, undef, undef, undef, undef, undef, undef, undef, undef, undef, undef, undef, undef, undef, undef, undef, undef, undef, undef, undef, undef, undef, undef, .bool false], by simp only [putAll, Act.put, List.setIfInBounds_toArray, List.set_cons_succ, List.set_cons_zero], rfl⟩ ?steps ?fin
  case steps =>
    simp only [relSteps]
    refine ⟨?_, ?_, ?_, ?_, ?_, ?_, ?_, ?_, ?_, ?_, ?_, ?_, ?_, ?_, ?_, ?_, ?_, ?_, ?_, ?_, ?_, ?_, ?_, ?_, ?_, ?_, ?_, ?_, ?_, ?_, ?_, ?_, ?_, ?_, trivial⟩
    · rintro vs W K hc hvl hw hK
      obtain ⟨x0, x1, x2, x3, x4, x5, x6, x7, x8, x9, x10, x11, x12, x13, x14, x15, x16, x17, x18, x19, x20, x21, x22, x23, x24, x25, x26, x27, x28, x29, x30, x31, x32, x33, rfl⟩ := len34 hvl
      have HK := Lib.hid hK
      have HC := Lib.hid hc
      have HW := Lib.hid hw
      clear hK hc hw hvl
      simp only [putAll, Act.put, List.setIfInBounds_toArray, List.set_cons_succ, List.set_cons_zero]
      clear HW
      go_wp2_with fail
      have fin := HK.out (.int .i64 0) W (Below.refl _ _) rfl
      simp only [putAll, Act.put, List.setIfInBounds_toArray, List.set_cons_succ, List.set_cons_zero] at fin
      exact fin
    · rintro vs W K hc hvl hw hK
      obtain ⟨x0, x1, x2, x3, x4, x5, x6, x7, x8, x9, x10, x11, x12, x13, x14, x15, x16, x17, x18, x19, x20, x21, x22, x23, x24, x25, x26, x27, x28, x29, x30, x31, x32, x33, rfl⟩ := len34 hvl
      have HK := Lib.hid hK
      have HC := Lib.hid hc
      have HW := Lib.hid hw
      clear hK hc hw hvl
      have hd0 := HW.out ⟨0, .data⟩ (by simp) rfl
      obtain rfl : x0 = .int .i64 0 := rel_get hd0 rfl
      simp only [putAll, Act.put, List.setIfInBounds_toArray, List.set_cons_succ, List.set_cons_zero]
      clear HW hd0
      go_wp2_with fail
      have fin := HK.out (.bool true) W (Below.refl _ _) rfl
      simp only [putAll, Act.put, List.setIfInBounds_toArray, List.set_cons_succ, List.set_cons_zero] at fin
      exact fin
    · rintro vs W K hc hvl hw hK
      obtain ⟨x0, x1, x2, x3, x4, x5, x6, x7, x8, x9, x10, x11, x12, x13, x14, x15, x16, x17, x18, x19, x20, x21, x22, x23, x24, x25, x26, x27, x28, x29, x30, x31, x32, x33, rfl⟩ := len34 hvl
      have HK := Lib.hid hK
      have HC := Lib.hid hc
      have HW := Lib.hid hw
      clear hK hc hw hvl
      have hd1 := HW.out ⟨1, .data⟩ (by simp) rfl
      obtain rfl : x1 = .bool true := rel_get hd1 rfl
      simp only [putAll, Act.put, List.setIfInBounds_toArray, List.set_cons_succ, List.set_cons_zero]
      clear HW hd1
      go_wp2_with fail
      have fin := HK.out (.bool true) W (Below.refl _ _) rfl
      simp only [putAll, Act.put, List.setIfInBounds_toArray, List.set_cons_succ, List.set_cons_zero] at fin
      exact fin
    · rintro vs W K hc hvl hw hK
      obtain ⟨x0, x1, x2, x3, x4, x5, x6, x7, x8, x9, x10, x11, x12, x13, x14, x15, x16, x17, x18, x19, x20, x21, x22, x23, x24, x25, x26, x27, x28, x29, x30, x31, x32, x33, rfl⟩ := len34 hvl
      have HK := Lib.hid hK
      have HC := Lib.hid hc
      have HW := Lib.hid hw
      clear hK hc hw hvl
      have hd2 := HW.out ⟨2, .guard⟩ (by simp) rfl
      obtain rfl : x2 = .bool true := rel_get hd2 rfl
      simp only [putAll, Act.put, List.setIfInBounds_toArray, List.set_cons_succ, List.set_cons_zero]
      clear HW hd2
      go_wp2_with fail
      have fin := HK.out (v1) W (Below.refl _ _) rfl
      simp only [putAll, Act.put, List.setIfInBounds_toArray, List.set_cons_succ, List.set_cons_zero] at fin
      exact fin
    · rintro vs W K hc hvl hw hK
      obtain ⟨x0, x1, x2, x3, x4, x5, x6, x7, x8, x9, x10, x11, x12, x13, x14, x15, x16, x17, x18, x19, x20, x21, x22, x23, x24, x25, x26, x27, x28, x29, x30, x31, x32, x33, rfl⟩ := len34 hvl
      have HK := Lib.hid hK
      have HC := Lib.hid hc
      have HW := Lib.hid hw
      clear hK hc hw hvl
      have hd2 := HW.out ⟨2, .guard⟩ (by simp) rfl
      obtain rfl : x2 = .bool true := rel_get hd2 rfl
      simp only [putAll, Act.put, List.setIfInBounds_toArray, List.set_cons_succ, List.set_cons_zero]
      clear HW hd2
      go_wp2_with fail
      have fin := HK.out (.slice (some ⟨g, 0, none⟩) hs.length c2) W (Below.refl _ _) rfl
      simp only [putAll, Act.put, List.setIfInBounds_toArray, List.set_cons_succ, List.set_cons_zero] at fin
      exact fin
    · rintro vs W K hc hvl hw hK
      obtain ⟨x0, x1, x2, x3, x4, x5, x6, x7, x8, x9, x10, x11, x12, x13, x14, x15, x16, x17, x18, x19, x20, x21, x22, x23, x24, x25, x26, x27, x28, x29, x30, x31, x32, x33, rfl⟩ := len34 hvl
      have HK := Lib.hid hK
      have HC := Lib.hid hc
      have HW := Lib.hid hw
      clear hK hc hw hvl
      have hd2 := HW.out ⟨2, .guard⟩ (by simp) rfl
      obtain rfl : x2 = .bool true := rel_get hd2 rfl
      simp only [putAll, Act.put, List.setIfInBounds_toArray, List.set_cons_succ, List.set_cons_zero]
      clear HW hd2
      go_wp2_with fail
      have fin := HK.out (.int .i64 (s : Int)) W (Below.refl _ _) rfl
      simp only [putAll, Act.put, List.setIfInBounds_toArray, List.set_cons_succ, List.set_cons_zero] at fin
      exact fin
    · rintro vs W K hc hvl hw hK
      obtain ⟨x0, x1, x2, x3, x4, x5, x6, x7, x8, x9, x10, x11, x12, x13, x14, x15, x16, x17, x18, x19, x20, x21, x22, x23, x24, x25, x26, x27, x28, x29, x30, x31, x32, x33, rfl⟩ := len34 hvl
      have HK := Lib.hid hK
      have HC := Lib.hid hc
      have HW := Lib.hid hw
      clear hK hc hw hvl
      have hd4 := HW.out ⟨4, .data⟩ (by simp) rfl
      obtain rfl : x4 = .slice (some ⟨g, 0, none⟩) hs.length c2 := rel_get hd4 rfl
      have hd5 := HW.out ⟨5, .data⟩ (by simp) rfl
      obtain rfl : x5 = .int .i64 (s : Int) := rel_get hd5 rfl
      have hd2 := HW.out ⟨2, .guard⟩ (by simp) rfl
      obtain rfl : x2 = .bool true := rel_get hd2 rfl
      simp only [putAll, Act.put, List.setIfInBounds_toArray, List.set_cons_succ, List.set_cons_zero]
      clear HW hd2 hd4 hd5
      go_wp2_with fail
      refine (QR.out W (HP4.out.grow HC.out)).mono ?_
      rintro e W' ⟨v', rfl, hr', hb'⟩
      have HB' := Lib.hid hb'
      have HR' := Lib.hid (ownsRow_lower hr' HC.out.size)
      clear hb' hr'
      go_wp2_with fail
      have fin := HK.out v' W' HB'.out HR'.out
      simp only [putAll, Act.put, List.setIfInBounds_toArray, List.set_cons_succ, List.set_cons_zero] at fin
      exact fin
    · rintro vs W K hc hvl hw hK
      obtain ⟨x0, x1, x2, x3, x4, x5, x6, x7, x8, x9, x10, x11, x12, x13, x14, x15, x16, x17, x18, x19, x20, x21, x22, x23, x24, x25, x26, x27, x28, x29, x30, x31, x32, x33, rfl⟩ := len34 hvl
      have HK := Lib.hid hK
      have HC := Lib.hid hc
      have HW := Lib.hid hw
      clear hK hc hw hvl
      have hd3 := HW.out ⟨3, .data⟩ (by simp) rfl
      obtain rfl : x3 = v1 := rel_get hd3 rfl
      have hd6 := HW.out ⟨6, .data⟩ (by simp) rfl
      have hr := rel_get (x := x6) hd6 rfl
      have HO := Lib.hid (show W.ownsRow w4.heap.size 3 1 x6 TL.length (TL.map encI) from hr)
      clear hr
      have hd2 := HW.out ⟨2, .guard⟩ (by simp) rfl
      obtain rfl : x2 = .bool true := rel_get hd2 rfl
      simp only [putAll, Act.put, List.setIfInBounds_toArray, List.set_cons_succ, List.set_cons_zero]
      clear HW hd2 hd3 hd6
      go_wp2_with fail
      refine (ints_own (own_grow R4.out HC.out) HO.out lT.out).mono ?_
      rintro e W' ⟨rfl, hb'⟩
      have HB' := Lib.hid hb'
      clear hb'
      go_wp2_with fail
      have fin := HK.out (.bool true) W' HB'.out rfl
      simp only [putAll, Act.put, List.setIfInBounds_toArray, List.set_cons_succ, List.set_cons_zero] at fin
      exact fin
    · rintro vs W K hc hvl hw hK
      obtain ⟨x0, x1, x2, x3, x4, x5, x6, x7, x8, x9, x10, x11, x12, x13, x14, x15, x16, x17, x18, x19, x20, x21, x22, x23, x24, x25, x26, x27, x28, x29, x30, x31, x32, x33, rfl⟩ := len34 hvl
      have HK := Lib.hid hK
      have HC := Lib.hid hc
      have HW := Lib.hid hw
      clear hK hc hw hvl
      have hd2 := HW.out ⟨2, .data⟩ (by simp) rfl
      obtain rfl : x2 = .bool true := rel_get hd2 rfl
      have hd7 := HW.out ⟨7, .data⟩ (by simp) rfl
      obtain rfl : x7 = .bool true := rel_get hd7 rfl
      simp only [putAll, Act.put, List.setIfInBounds_toArray, List.set_cons_succ, List.set_cons_zero]
      clear HW hd2 hd7
      go_wp2_with fail
      have fin := HK.out (.bool true) W (Below.refl _ _) rfl
      simp only [putAll, Act.put, List.setIfInBounds_toArray, List.set_cons_succ, List.set_cons_zero] at fin
      exact fin
    · rintro vs W K hc hvl hw hK
      obtain ⟨x0, x1, x2, x3, x4, x5, x6, x7, x8, x9, x10, x11, x12, x13, x14, x15, x16, x17, x18, x19, x20, x21, x22, x23, x24, x25, x26, x27, x28, x29, x30, x31, x32, x33, rfl⟩ := len34 hvl
      have HK := Lib.hid hK
      have HC := Lib.hid hc
      have HW := Lib.hid hw
      clear hK hc hw hvl
      have hd8 := HW.out ⟨8, .data⟩ (by simp) rfl
      obtain rfl : x8 = .bool true := rel_get hd8 rfl
      simp only [putAll, Act.put, List.setIfInBounds_toArray, List.set_cons_succ, List.set_cons_zero]
      clear HW hd8
      go_wp2_with fail
      have fin := HK.out (.bool true) W (Below.refl _ _) rfl
      simp only [putAll, Act.put, List.setIfInBounds_toArray, List.set_cons_succ, List.set_cons_zero] at fin
      exact fin
    · rintro vs W K hc hvl hw hK
      obtain ⟨x0, x1, x2, x3, x4, x5, x6, x7, x8, x9, x10, x11, x12, x13, x14, x15, x16, x17, x18, x19, x20, x21, x22, x23, x24, x25, x26, x27, x28, x29, x30, x31, x32, x33, rfl⟩ := len34 hvl
      have HK := Lib.hid hK
      have HC := Lib.hid hc
      have HW := Lib.hid hw
      clear hK hc hw hvl
      have hd9 := HW.out ⟨9, .guard⟩ (by simp) rfl
      obtain rfl : x9 = .bool true := rel_get hd9 rfl
      simp only [putAll, Act.put, List.setIfInBounds_toArray, List.set_cons_succ, List.set_cons_zero]
      clear HW hd9
      go_wp2_with fail
      have fin := HK.out (.int .i64 0) W (Below.refl _ _) rfl
      simp only [putAll, Act.put, List.setIfInBounds_toArray, List.set_cons_succ, List.set_cons_zero] at fin
      exact fin
    · rintro vs W K hc hvl hw hK
      obtain ⟨x0, x1, x2, x3, x4, x5, x6, x7, x8, x9, x10, x11, x12, x13, x14, x15, x16, x17, x18, x19, x20, x21, x22, x23, x24, x25, x26, x27, x28, x29, x30, x31, x32, x33, rfl⟩ := len34 hvl
      have HK := Lib.hid hK
      have HC := Lib.hid hc
      have HW := Lib.hid hw
      clear hK hc hw hvl
      have hd10 := HW.out ⟨10, .data⟩ (by simp) rfl
      obtain rfl : x10 = .int .i64 0 := rel_get hd10 rfl
      have hd9 := HW.out ⟨9, .guard⟩ (by simp) rfl
      obtain rfl : x9 = .bool true := rel_get hd9 rfl
      simp only [putAll, Act.put, List.setIfInBounds_toArray, List.set_cons_succ, List.set_cons_zero]
      clear HW hd9 hd10
      go_wp2_with fail
      have fin := HK.out (.bool true) W (Below.refl _ _) rfl
      simp only [putAll, Act.put, List.setIfInBounds_toArray, List.set_cons_succ, List.set_cons_zero] at fin
      exact fin
    · rintro vs W K hc hvl hw hK
      obtain ⟨x0, x1, x2, x3, x4, x5, x6, x7, x8, x9, x10, x11, x12, x13, x14, x15, x16, x17, x18, x19, x20, x21, x22, x23, x24, x25, x26, x27, x28, x29, x30, x31, x32, x33, rfl⟩ := len34 hvl
      have HK := Lib.hid hK
      have HC := Lib.hid hc
      have HW := Lib.hid hw
      clear hK hc hw hvl
      have hd9 := HW.out ⟨9, .data⟩ (by simp) rfl
      obtain rfl : x9 = .bool true := rel_get hd9 rfl
      have hd11 := HW.out ⟨11, .data⟩ (by simp) rfl
      obtain rfl : x11 = .bool true := rel_get hd11 rfl
      simp only [putAll, Act.put, List.setIfInBounds_toArray, List.set_cons_succ, List.set_cons_zero]
      clear HW hd9 hd11
      go_wp2_with fail
      have fin := HK.out (.bool true) W (Below.refl _ _) rfl
      simp only [putAll, Act.put, List.setIfInBounds_toArray, List.set_cons_succ, List.set_cons_zero] at fin
      exact fin
    · rintro vs W K hc hvl hw hK
      obtain ⟨x0, x1, x2, x3, x4, x5, x6, x7, x8, x9, x10, x11, x12, x13, x14, x15, x16, x17, x18, x19, x20, x21, x22, x23, x24, x25, x26, x27, x28, x29, x30, x31, x32, x33, rfl⟩ := len34 hvl
      have HK := Lib.hid hK
      have HC := Lib.hid hc
      have HW := Lib.hid hw
      clear hK hc hw hvl
      have hd12 := HW.out ⟨12, .data⟩ (by simp) rfl
      obtain rfl : x12 = .bool true := rel_get hd12 rfl
      simp only [putAll, Act.put, List.setIfInBounds_toArray, List.set_cons_succ, List.set_cons_zero]
      clear HW hd12
      go_wp2_with fail
      have fin := HK.out (.bool true) W (Below.refl _ _) rfl
      simp only [putAll, Act.put, List.setIfInBounds_toArray, List.set_cons_succ, List.set_cons_zero] at fin
      exact fin
    · rintro vs W K hc hvl hw hK
      obtain ⟨x0, x1, x2, x3, x4, x5, x6, x7, x8, x9, x10, x11, x12, x13, x14, x15, x16, x17, x18, x19, x20, x21, x22, x23, x24, x25, x26, x27, x28, x29, x30, x31, x32, x33, rfl⟩ := len34 hvl
      have HK := Lib.hid hK
      have HC := Lib.hid hc
      have HW := Lib.hid hw
      clear hK hc hw hvl
      have hd13 := HW.out ⟨13, .guard⟩ (by simp) rfl
      obtain rfl : x13 = .bool true := rel_get hd13 rfl
      simp only [putAll, Act.put, List.setIfInBounds_toArray, List.set_cons_succ, List.set_cons_zero]
      obtain ⟨z0, z1, _, _⟩ := two_cells (N4.out.below HC.out N4.out.lt)
      clear HW hd13
      go_wp2_with fail
      have fin := HK.out (.agg #[.int .i64 n1, .int .i64 n2]) W (Below.refl _ _) rfl
      simp only [putAll, Act.put, List.setIfInBounds_toArray, List.set_cons_succ, List.set_cons_zero] at fin
      exact fin
    · rintro vs W K hc hvl hw hK
      obtain ⟨x0, x1, x2, x3, x4, x5, x6, x7, x8, x9, x10, x11, x12, x13, x14, x15, x16, x17, x18, x19, x20, x21, x22, x23, x24, x25, x26, x27, x28, x29, x30, x31, x32, x33, rfl⟩ := len34 hvl
      have HK := Lib.hid hK
      have HC := Lib.hid hc
      have HW := Lib.hid hw
      clear hK hc hw hvl
      have hd13 := HW.out ⟨13, .guard⟩ (by simp) rfl
      obtain rfl : x13 = .bool true := rel_get hd13 rfl
      simp only [putAll, Act.put, List.setIfInBounds_toArray, List.set_cons_succ, List.set_cons_zero]
      clear HW hd13
      go_wp2_with fail
      have fin := HK.out (.slice (some ⟨g, 0, none⟩) hs.length c2) W (Below.refl _ _) rfl
      simp only [putAll, Act.put, List.setIfInBounds_toArray, List.set_cons_succ, List.set_cons_zero] at fin
      exact fin
    · rintro vs W K hc hvl hw hK
      obtain ⟨x0, x1, x2, x3, x4, x5, x6, x7, x8, x9, x10, x11, x12, x13, x14, x15, x16, x17, x18, x19, x20, x21, x22, x23, x24, x25, x26, x27, x28, x29, x30, x31, x32, x33, rfl⟩ := len34 hvl
      have HK := Lib.hid hK
      have HC := Lib.hid hc
      have HW := Lib.hid hw
      clear hK hc hw hvl
      have hd13 := HW.out ⟨13, .guard⟩ (by simp) rfl
      obtain rfl : x13 = .bool true := rel_get hd13 rfl
      simp only [putAll, Act.put, List.setIfInBounds_toArray, List.set_cons_succ, List.set_cons_zero]
      clear HW hd13
      go_wp2_with fail
      have fin := HK.out (.int .i64 (s : Int)) W (Below.refl _ _) rfl
      simp only [putAll, Act.put, List.setIfInBounds_toArray, List.set_cons_succ, List.set_cons_zero] at fin
      exact fin
    · rintro vs W K hc hvl hw hK
      obtain ⟨x0, x1, x2, x3, x4, x5, x6, x7, x8, x9, x10, x11, x12, x13, x14, x15, x16, x17, x18, x19, x20, x21, x22, x23, x24, x25, x26, x27, x28, x29, x30, x31, x32, x33, rfl⟩ := len34 hvl
      have HK := Lib.hid hK
      have HC := Lib.hid hc
      have HW := Lib.hid hw
      clear hK hc hw hvl
      have hd15 := HW.out ⟨15, .data⟩ (by simp) rfl
      obtain rfl : x15 = .slice (some ⟨g, 0, none⟩) hs.length c2 := rel_get hd15 rfl
      have hd16 := HW.out ⟨16, .data⟩ (by simp) rfl
      obtain rfl : x16 = .int .i64 (s : Int) := rel_get hd16 rfl
      have hd13 := HW.out ⟨13, .guard⟩ (by simp) rfl
      obtain rfl : x13 = .bool true := rel_get hd13 rfl
      simp only [putAll, Act.put, List.setIfInBounds_toArray, List.set_cons_succ, List.set_cons_zero]
      clear HW hd13 hd15 hd16
      go_wp2_with fail
      refine (QN.out W (HP4.out.grow HC.out)).mono ?_
      rintro e W' ⟨rfl, hb'⟩
      have HB' := Lib.hid hb'
      clear hb'
      go_wp2_with fail
      have fin := HK.out (.agg #[.int .i64 n1, .int .i64 n2]) W' HB'.out rfl
      simp only [putAll, Act.put, List.setIfInBounds_toArray, List.set_cons_succ, List.set_cons_zero] at fin
      exact fin
    · rintro vs W K hc hvl hw hK
      obtain ⟨x0, x1, x2, x3, x4, x5, x6, x7, x8, x9, x10, x11, x12, x13, x14, x15, x16, x17, x18, x19, x20, x21, x22, x23, x24, x25, x26, x27, x28, x29, x30, x31, x32, x33, rfl⟩ := len34 hvl
      have HK := Lib.hid hK
      have HC := Lib.hid hc
      have HW := Lib.hid hw
      clear hK hc hw hvl
      have hd14 := HW.out ⟨14, .data⟩ (by simp) rfl
      obtain rfl : x14 = .agg #[.int .i64 n1, .int .i64 n2] := rel_get hd14 rfl
      have hd17 := HW.out ⟨17, .data⟩ (by simp) rfl
      obtain rfl : x17 = .agg #[.int .i64 n1, .int .i64 n2] := rel_get hd17 rfl
      have hd13 := HW.out ⟨13, .guard⟩ (by simp) rfl
      obtain rfl : x13 = .bool true := rel_get hd13 rfl
      simp only [putAll, Act.put, List.setIfInBounds_toArray, List.set_cons_succ, List.set_cons_zero]
      have E39 := eq39 n1 n2
      clear HW hd13 hd14 hd17
      go_wp2_with fail
      have fin := HK.out (.bool true) W (Below.refl _ _) rfl
      simp only [putAll, Act.put, List.setIfInBounds_toArray, List.set_cons_succ, List.set_cons_zero] at fin
      exact fin
    · rintro vs W K hc hvl hw hK
      obtain ⟨x0, x1, x2, x3, x4, x5, x6, x7, x8, x9, x10, x11, x12, x13, x14, x15, x16, x17, x18, x19, x20, x21, x22, x23, x24, x25, x26, x27, x28, x29, x30, x31, x32, x33, rfl⟩ := len34 hvl
      have HK := Lib.hid hK
      have HC := Lib.hid hc
      have HW := Lib.hid hw
      clear hK hc hw hvl
      have hd13 := HW.out ⟨13, .data⟩ (by simp) rfl
      obtain rfl : x13 = .bool true := rel_get hd13 rfl
      have hd18 := HW.out ⟨18, .data⟩ (by simp) rfl
      obtain rfl : x18 = .bool true := rel_get hd18 rfl
      simp only [putAll, Act.put, List.setIfInBounds_toArray, List.set_cons_succ, List.set_cons_zero]
      clear HW hd13 hd18
      go_wp2_with fail
      have fin := HK.out (.bool true) W (Below.refl _ _) rfl
      simp only [putAll, Act.put, List.setIfInBounds_toArray, List.set_cons_succ, List.set_cons_zero] at fin
      exact fin
    · rintro vs W K hc hvl hw hK
      obtain ⟨x0, x1, x2, x3, x4, x5, x6, x7, x8, x9, x10, x11, x12, x13, x14, x15, x16, x17, x18, x19, x20, x21, x22, x23, x24, x25, x26, x27, x28, x29, x30, x31, x32, x33, rfl⟩ := len34 hvl
      have HK := Lib.hid hK
      have HC := Lib.hid hc
      have HW := Lib.hid hw
      clear hK hc hw hvl
      have hd19 := HW.out ⟨19, .data⟩ (by simp) rfl
      obtain rfl : x19 = .bool true := rel_get hd19 rfl
      simp only [putAll, Act.put, List.setIfInBounds_toArray, List.set_cons_succ, List.set_cons_zero]
      clear HW hd19
      go_wp2_with fail
      have fin := HK.out (.bool true) W (Below.refl _ _) rfl
      simp only [putAll, Act.put, List.setIfInBounds_toArray, List.set_cons_succ, List.set_cons_zero] at fin
      exact fin
    · rintro vs W K hc hvl hw hK
      obtain ⟨x0, x1, x2, x3, x4, x5, x6, x7, x8, x9, x10, x11, x12, x13, x14, x15, x16, x17, x18, x19, x20, x21, x22, x23, x24, x25, x26, x27, x28, x29, x30, x31, x32, x33, rfl⟩ := len34 hvl
      have HK := Lib.hid hK
      have HC := Lib.hid hc
      have HW := Lib.hid hw
      clear hK hc hw hvl
      have hd20 := HW.out ⟨20, .guard⟩ (by simp) rfl
      obtain rfl : x20 = .bool true := rel_get hd20 rfl
      simp only [putAll, Act.put, List.setIfInBounds_toArray, List.set_cons_succ, List.set_cons_zero]
      clear HW hd20
      go_wp2_with fail
      have fin := HK.out (.int .i64 0) W (Below.refl _ _) rfl
      simp only [putAll, Act.put, List.setIfInBounds_toArray, List.set_cons_succ, List.set_cons_zero] at fin
      exact fin
    · rintro vs W K hc hvl hw hK
      obtain ⟨x0, x1, x2, x3, x4, x5, x6, x7, x8, x9, x10, x11, x12, x13, x14, x15, x16, x17, x18, x19, x20, x21, x22, x23, x24, x25, x26, x27, x28, x29, x30, x31, x32, x33, rfl⟩ := len34 hvl
      have HK := Lib.hid hK
      have HC := Lib.hid hc
      have HW := Lib.hid hw
      clear hK hc hw hvl
      have hd21 := HW.out ⟨21, .data⟩ (by simp) rfl
      obtain rfl : x21 = .int .i64 0 := rel_get hd21 rfl
      have hd20 := HW.out ⟨20, .guard⟩ (by simp) rfl
      obtain rfl : x20 = .bool true := rel_get hd20 rfl
      simp only [putAll, Act.put, List.setIfInBounds_toArray, List.set_cons_succ, List.set_cons_zero]
      clear HW hd20 hd21
      go_wp2_with fail
      have fin := HK.out (.bool true) W (Below.refl _ _) rfl
      simp only [putAll, Act.put, List.setIfInBounds_toArray, List.set_cons_succ, List.set_cons_zero] at fin
      exact fin
    · rintro vs W K hc hvl hw hK
      obtain ⟨x0, x1, x2, x3, x4, x5, x6, x7, x8, x9, x10, x11, x12, x13, x14, x15, x16, x17, x18, x19, x20, x21, x22, x23, x24, x25, x26, x27, x28, x29, x30, x31, x32, x33, rfl⟩ := len34 hvl
      have HK := Lib.hid hK
      have HC := Lib.hid hc
      have HW := Lib.hid hw
      clear hK hc hw hvl
      have hd20 := HW.out ⟨20, .data⟩ (by simp) rfl
      obtain rfl : x20 = .bool true := rel_get hd20 rfl
      have hd22 := HW.out ⟨22, .data⟩ (by simp) rfl
      obtain rfl : x22 = .bool true := rel_get hd22 rfl
      simp only [putAll, Act.put, List.setIfInBounds_toArray, List.set_cons_succ, List.set_cons_zero]
      clear HW hd20 hd22
      go_wp2_with fail
      have fin := HK.out (.bool true) W (Below.refl _ _) rfl
      simp only [putAll, Act.put, List.setIfInBounds_toArray, List.set_cons_succ, List.set_cons_zero] at fin
      exact fin
    · rintro vs W K hc hvl hw hK
      obtain ⟨x0, x1, x2, x3, x4, x5, x6, x7, x8, x9, x10, x11, x12, x13, x14, x15, x16, x17, x18, x19, x20, x21, x22, x23, x24, x25, x26, x27, x28, x29, x30, x31, x32, x33, rfl⟩ := len34 hvl
      have HK := Lib.hid hK
      have HC := Lib.hid hc
      have HW := Lib.hid hw
      clear hK hc hw hvl
      have hd23 := HW.out ⟨23, .data⟩ (by simp) rfl
      obtain rfl : x23 = .bool true := rel_get hd23 rfl
      simp only [putAll, Act.put, List.setIfInBounds_toArray, List.set_cons_succ, List.set_cons_zero]
      clear HW hd23
      go_wp2_with fail
      have fin := HK.out (.bool true) W (Below.refl _ _) rfl
      simp only [putAll, Act.put, List.setIfInBounds_toArray, List.set_cons_succ, List.set_cons_zero] at fin
      exact fin
    · rintro vs W K hc hvl hw hK
      obtain ⟨x0, x1, x2, x3, x4, x5, x6, x7, x8, x9, x10, x11, x12, x13, x14, x15, x16, x17, x18, x19, x20, x21, x22, x23, x24, x25, x26, x27, x28, x29, x30, x31, x32, x33, rfl⟩ := len34 hvl
      have HK := Lib.hid hK
      have HC := Lib.hid hc
      have HW := Lib.hid hw
      clear hK hc hw hvl
      have hd24 := HW.out ⟨24, .guard⟩ (by simp) rfl
      obtain rfl : x24 = .bool true := rel_get hd24 rfl
      simp only [putAll, Act.put, List.setIfInBounds_toArray, List.set_cons_succ, List.set_cons_zero]
      clear HW hd24
      go_wp2_with fail
      have fin := HK.out (.int .i64 (L : Int)) W (Below.refl _ _) rfl
      simp only [putAll, Act.put, List.setIfInBounds_toArray, List.set_cons_succ, List.set_cons_zero] at fin
      exact fin
    · rintro vs W K hc hvl hw hK
      obtain ⟨x0, x1, x2, x3, x4, x5, x6, x7, x8, x9, x10, x11, x12, x13, x14, x15, x16, x17, x18, x19, x20, x21, x22, x23, x24, x25, x26, x27, x28, x29, x30, x31, x32, x33, rfl⟩ := len34 hvl
      have HK := Lib.hid hK
      have HC := Lib.hid hc
      have HW := Lib.hid hw
      clear hK hc hw hvl
      have hd24 := HW.out ⟨24, .guard⟩ (by simp) rfl
      obtain rfl : x24 = .bool true := rel_get hd24 rfl
      simp only [putAll, Act.put, List.setIfInBounds_toArray, List.set_cons_succ, List.set_cons_zero]
      clear HW hd24
      go_wp2_with fail
      have fin := HK.out (.slice (some ⟨g, 0, none⟩) hs.length c2) W (Below.refl _ _) rfl
      simp only [putAll, Act.put, List.setIfInBounds_toArray, List.set_cons_succ, List.set_cons_zero] at fin
      exact fin
    · rintro vs W K hc hvl hw hK
      obtain ⟨x0, x1, x2, x3, x4, x5, x6, x7, x8, x9, x10, x11, x12, x13, x14, x15, x16, x17, x18, x19, x20, x21, x22, x23, x24, x25, x26, x27, x28, x29, x30, x31, x32, x33, rfl⟩ := len34 hvl
      have HK := Lib.hid hK
      have HC := Lib.hid hc
      have HW := Lib.hid hw
      clear hK hc hw hvl
      have hd26 := HW.out ⟨26, .data⟩ (by simp) rfl
      obtain rfl : x26 = .slice (some ⟨g, 0, none⟩) hs.length c2 := rel_get hd26 rfl
      have hd24 := HW.out ⟨24, .guard⟩ (by simp) rfl
      obtain rfl : x24 = .bool true := rel_get hd24 rfl
      simp only [putAll, Act.put, List.setIfInBounds_toArray, List.set_cons_succ, List.set_cons_zero]
      clear HW hd24 hd26
      go_wp2_with fail
      refine (QK.out W (HP4.out.grow HC.out)).mono ?_
      rintro e W' ⟨rfl, hb'⟩
      have HB' := Lib.hid hb'
      clear hb'
      go_wp2_with fail
      have fin := HK.out (.int .i64 (L : Int)) W' HB'.out rfl
      simp only [putAll, Act.put, List.setIfInBounds_toArray, List.set_cons_succ, List.set_cons_zero] at fin
      exact fin
    · rintro vs W K hc hvl hw hK
      obtain ⟨x0, x1, x2, x3, x4, x5, x6, x7, x8, x9, x10, x11, x12, x13, x14, x15, x16, x17, x18, x19, x20, x21, x22, x23, x24, x25, x26, x27, x28, x29, x30, x31, x32, x33, rfl⟩ := len34 hvl
      have HK := Lib.hid hK
      have HC := Lib.hid hc
      have HW := Lib.hid hw
      clear hK hc hw hvl
      have hd25 := HW.out ⟨25, .data⟩ (by simp) rfl
      obtain rfl : x25 = .int .i64 (L : Int) := rel_get hd25 rfl
      have hd27 := HW.out ⟨27, .data⟩ (by simp) rfl
      obtain rfl : x27 = .int .i64 (L : Int) := rel_get hd27 rfl
      have hd24 := HW.out ⟨24, .guard⟩ (by simp) rfl
      obtain rfl : x24 = .bool true := rel_get hd24 rfl
      simp only [putAll, Act.put, List.setIfInBounds_toArray, List.set_cons_succ, List.set_cons_zero]
      clear HW hd24 hd25 hd27
      go_wp2_with fail
      have fin := HK.out (.bool true) W (Below.refl _ _) rfl
      simp only [putAll, Act.put, List.setIfInBounds_toArray, List.set_cons_succ, List.set_cons_zero] at fin
      exact fin
    · rintro vs W K hc hvl hw hK
      obtain ⟨x0, x1, x2, x3, x4, x5, x6, x7, x8, x9, x10, x11, x12, x13, x14, x15, x16, x17, x18, x19, x20, x21, x22, x23, x24, x25, x26, x27, x28, x29, x30, x31, x32, x33, rfl⟩ := len34 hvl
      have HK := Lib.hid hK
      have HC := Lib.hid hc
      have HW := Lib.hid hw
      clear hK hc hw hvl
      have hd24 := HW.out ⟨24, .data⟩ (by simp) rfl
      obtain rfl : x24 = .bool true := rel_get hd24 rfl
      have hd28 := HW.out ⟨28, .data⟩ (by simp) rfl
      obtain rfl : x28 = .bool true := rel_get hd28 rfl
      simp only [putAll, Act.put, List.setIfInBounds_toArray, List.set_cons_succ, List.set_cons_zero]
      clear HW hd24 hd28
      go_wp2_with fail
      have fin := HK.out (.bool true) W (Below.refl _ _) rfl
      simp only [putAll, Act.put, List.setIfInBounds_toArray, List.set_cons_succ, List.set_cons_zero] at fin
      exact fin
    · rintro vs W K hc hvl hw hK
      obtain ⟨x0, x1, x2, x3, x4, x5, x6, x7, x8, x9, x10, x11, x12, x13, x14, x15, x16, x17, x18, x19, x20, x21, x22, x23, x24, x25, x26, x27, x28, x29, x30, x31, x32, x33, rfl⟩ := len34 hvl
      have HK := Lib.hid hK
      have HC := Lib.hid hc
      have HW := Lib.hid hw
      clear hK hc hw hvl
      have hd29 := HW.out ⟨29, .data⟩ (by simp) rfl
      obtain rfl : x29 = .bool true := rel_get hd29 rfl
      simp only [putAll, Act.put, List.setIfInBounds_toArray, List.set_cons_succ, List.set_cons_zero]
      clear HW hd29
      go_wp2_with fail
      have fin := HK.out (.bool true) W (Below.refl _ _) rfl
      simp only [putAll, Act.put, List.setIfInBounds_toArray, List.set_cons_succ, List.set_cons_zero] at fin
      exact fin
    · rintro vs W K hc hvl hw hK
      obtain ⟨x0, x1, x2, x3, x4, x5, x6, x7, x8, x9, x10, x11, x12, x13, x14, x15, x16, x17, x18, x19, x20, x21, x22, x23, x24, x25, x26, x27, x28, x29, x30, x31, x32, x33, rfl⟩ := len34 hvl
      have HK := Lib.hid hK
      have HC := Lib.hid hc
      have HW := Lib.hid hw
      clear hK hc hw hvl
      have hd30 := HW.out ⟨30, .guard⟩ (by simp) rfl
      obtain rfl : x30 = .bool true := rel_get hd30 rfl
      simp only [putAll, Act.put, List.setIfInBounds_toArray, List.set_cons_succ, List.set_cons_zero]
      clear HW hd30
      go_wp2_with fail
      refine (awake_any W).mono ?_
      rintro e W' ⟨rfl, hb'⟩
      have HB' := Lib.hid hb'
      clear hb'
      go_wp2_with fail
      have fin := HK.out (.bool true) W' HB'.out rfl
      simp only [putAll, Act.put, List.setIfInBounds_toArray, List.set_cons_succ, List.set_cons_zero] at fin
      exact fin
    · rintro vs W K hc hvl hw hK
      obtain ⟨x0, x1, x2, x3, x4, x5, x6, x7, x8, x9, x10, x11, x12, x13, x14, x15, x16, x17, x18, x19, x20, x21, x22, x23, x24, x25, x26, x27, x28, x29, x30, x31, x32, x33, rfl⟩ := len34 hvl
      have HK := Lib.hid hK
      have HC := Lib.hid hc
      have HW := Lib.hid hw
      clear hK hc hw hvl
      have hd30 := HW.out ⟨30, .data⟩ (by simp) rfl
      obtain rfl : x30 = .bool true := rel_get hd30 rfl
      have hd31 := HW.out ⟨31, .data⟩ (by simp) rfl
      obtain rfl : x31 = .bool true := rel_get hd31 rfl
      simp only [putAll, Act.put, List.setIfInBounds_toArray, List.set_cons_succ, List.set_cons_zero]
      clear HW hd30 hd31
      go_wp2_with fail
      have fin := HK.out (.bool true) W (Below.refl _ _) rfl
      simp only [putAll, Act.put, List.setIfInBounds_toArray, List.set_cons_succ, List.set_cons_zero] at fin
      exact fin
    · rintro vs W K hc hvl hw hK
      obtain ⟨x0, x1, x2, x3, x4, x5, x6, x7, x8, x9, x10, x11, x12, x13, x14, x15, x16, x17, x18, x19, x20, x21, x22, x23, x24, x25, x26, x27, x28, x29, x30, x31, x32, x33, rfl⟩ := len34 hvl
      have HK := Lib.hid hK
      have HC := Lib.hid hc
      have HW := Lib.hid hw
      clear hK hc hw hvl
      have hd32 := HW.out ⟨32, .data⟩ (by simp) rfl
      obtain rfl : x32 = .bool true := rel_get hd32 rfl
      simp only [putAll, Act.put, List.setIfInBounds_toArray, List.set_cons_succ, List.set_cons_zero]
      clear HW hd32
      go_wp2_with fail
      have fin := HK.out (.bool true) W (Below.refl _ _) rfl
      simp only [putAll, Act.put, List.setIfInBounds_toArray, List.set_cons_succ, List.set_cons_zero] at fin
      exact fin
  case fin =>
    intro vs W hc hvl hv
    obtain ⟨x0, x1, x2, x3, x4, x5, x6, x7, x8, x9, x10, x11, x12, x13, x14, x15, x16, x17, x18, x19, x20, x21, x22, x23, x24, x25, x26, x27, x28, x29, x30, x31, x32, x33, rfl⟩ := len34 hvl
    have hd33 := hv 33 (by omega)
    obtain rfl : x33 = .bool true := rel_get hd33 rfl
    clear hd33
    simp only [putAll, Act.put, List.setIfInBounds_toArray, List.set_cons_succ, List.set_cons_zero]
    have T5 := Lib.hid (Below.andThen T4.out hc (Nat.le_refl _))
    clear hv hc hvl
    go_wp2_with fail
    go_ret
    exact ⟨rfl, T5.out⟩
end Go.Proofs.Ytlehddifcjklgaa
