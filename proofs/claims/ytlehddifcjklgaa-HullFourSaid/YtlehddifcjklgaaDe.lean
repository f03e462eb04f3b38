import Derived.Test.YtlehddifcjklgaaDd
import Derived.Maps.OwnIn
import Derived.Maps.OwnSet
import Derived.Maps.AppendAt
import Derived.RangeFuncNested
import Derived.RangeFuncBound
import Derived.RangeFuncCalls
import Derived.RangeFuncLeaves
import Derived.Shelf.Abstract
import Derived.Shelf.RegionOpen
import Derived.WalkKit
import Derived.OwnWalkIn
import Derived.TacticsInMore
import Derived.LoopNIn
import Derived.LoopIn
import Derived.WalkMore
import Derived.Sort.QuietThIn
import Derived.Sort.QuietTacIn
import Derived.Sort.BigQuietIn
import Derived.WalkSpells
import Derived.WalkLawsBesides
import Derived.BigQuiet
import Derived.Deep.QuietTactic
import Derived.Lib.Hide
import Derived.Deep.RegionHeld3
import Derived.StillTailTactics
import Derived.Deep.LoopGhost
import Derived.Lib.IndexAny
namespace Go.Proofs.Ytlehddifcjklgaa
open Go.RowKit Go.Shelf
attribute [local go_sem] Oper.semAt_some
set_option maxRecDepth 100000 in
set_option maxHeartbeats 2000000 in
theorem HullFour_any (ps : List Pt) (a : Option Addr) (c : Nat) (fr : Int) (w : World) (hp : PtsA w a ps c) (_hc : ps.length ≤ c) (_hn : a = none → c = 0) (hl : ps.length ≤ maxLen) (hz : ∀ q ∈ ps, InI q.1 ∧ InI q.2) (_hi : InI fr) :
    Calls Try.prog 14 #[.slice a ps.length c, .int .i64 fr] w fun e w' => e = .returned (.bool true) ∧ Below w.heap.size w w' := by
  have htm := tame_any ps a c 0 w hp hl hz
  clear hp _hc _hn hl hz _hi
  go_enter Try.func14, Try.ntmps14
  go_wp2_with fail
  refine htm.mono ?_
  rintro e w1 ⟨v, hs, rfl, ho, hck, hb⟩
  have ha := chk_areP hck
  have hA := chk_area hck
  obtain ⟨h3, h12⟩ := areP_len ha
  obtain ⟨g, c2, rfl, hpt, hcc⟩ : ∃ g c2, v = .slice (some ⟨g, 0, none⟩) hs.length c2 ∧ PtsAt w1 g 0 hs ∧ hs.length ≤ c2 := by
    obtain ⟨a2, c2, rfl, h⟩ := ho.open
    rcases h with ⟨_, _, rfl⟩ | ⟨g, hg, rfl, h, hc⟩
    · simp at h3
    · exact ⟨g, c2, rfl, h, hc⟩
  have HP := Lib.hid hpt
  have T1 := Lib.hid hb
  have CK := Lib.hid hck
  have HAA := Lib.hid hA
  have HCC := Lib.hid hcc
  have HL3 := Lib.hid (And.intro h3 h12)
  have lR := Lib.hid (Nat.le_trans (sidesL_length (restB hs (mid hs)) hs.length) (show hs.length ≤ 1000 by omega))
  have lT := Lib.hid (Nat.le_trans (sidesL_length (tipB hs (mid hs)) hs.length) (show hs.length ≤ 1000 by omega))
  have HR := Lib.hid (Rests_any hs g c2 w1 hpt hck hA)
  have HT := Lib.hid (fun W (h : PtsAt W g 0 hs) => Tips_any hs g c2 W h hck hA)
  have HM := Lib.hid (fun W (h : PtsAt W g 0 hs) => Middle_any hs g c2 W h hck hA)
  obtain ⟨R, hR⟩ : ∃ R, sidesL (restB hs (mid hs)) hs.length = R := ⟨_, rfl⟩
  obtain ⟨TT, hTT⟩ : ∃ T, sidesL (tipB hs (mid hs)) hs.length = T := ⟨_, rfl⟩
  obtain ⟨X, Y, D, hm⟩ : ∃ X Y D, mid hs = (X, Y, D) := ⟨_, _, _, rfl⟩
  have ER := Lib.hid hR
  have ET := Lib.hid hTT
  have EM := Lib.hid hm
  rw [hR] at HR lR
  rw [hTT] at HT lT
  rw [hm] at HM
  dsimp only at HM
  clear htm ho hb hck hpt ha hA h3 h12 hcc hR hTT hm
  go_wp2_with fail
  refine HR.out.mono ?_
  rintro e w2 ⟨v1, rfl, o1, hb⟩
  have HP2 := Lib.hid (HP.out.grow hb)
  have T2 := Lib.hid (Below.andThen T1.out hb (Nat.le_refl _))
  have R2 := Lib.hid o1
  clear hb T1 HP HR o1
  go_wp2_with fail
  refine (HT.out w2 HP2.out).mono ?_
  rintro e w3 ⟨v2, rfl, o2, hb⟩
  have HP3 := Lib.hid (HP2.out.grow hb)
  have T3 := Lib.hid (Below.andThen T2.out hb (Nat.le_refl _))
  have R3 := Lib.hid (own_grow R2.out hb)
  have F3 := Lib.hid o2
  clear hb T2 HP2 HT R2 o2
  go_wp2_with fail
  refine (HM.out w3 HP3.out).mono ?_
  rintro e w4 ⟨rfl, hb⟩
  obtain ⟨V, hV⟩ : ∃ V, V = w4.alloc (.cells #[.int .i64 X, .int .i64 Y, .int .i64 D] 29) := ⟨_, rfl⟩
  have hb4 : Below w3.heap.size w3 V := by rw [hV]; exact Below.al hb (Nat.le_refl _) _
  have HP4 := Lib.hid (HP3.out.grow hb4)
  have T4 := Lib.hid (Below.andThen T3.out hb4 (Nat.le_refl _))
  have R4 := Lib.hid (own_grow R3.out hb4)
  have F4 := Lib.hid (own_grow F3.out hb4)
  have M4 := Lib.hid (show Row V w4.heap.size 29 [.int .i64 X, .int .i64 Y, .int .i64 D] by rw [hV]; exact Row.new _ _ _)
  clear hb hb4 T3 HP3 HM R3 F3
  go_wp2_with fail
  rw [← hV]
  clear hV
  have HN := Lib.hid (fun W t (h : PtsAt W g 0 hs) (ht : t < hs.length) => Lean_any hs g c2 t W h CK.out HAA.out ht)
  obtain ⟨N, hN⟩ : ∃ N, hs.length = N := ⟨_, rfl⟩
  have EN := Lib.hid hN
  have hN3 : 3 ≤ N := by have := HL3.out; omega
  have hN12 : N ≤ 12 := by have := HL3.out; omega
  have HCC' := Lib.hid (show N ≤ c2 by have := HCC.out; omega)
  rw [hN] at HN ⊢
  clear hN
  go_loopw [7, 14] (fun y i wr => ∃ (k gy cy : Nat) (qs : List Pt), i = .int .i64 (k : Int) ∧ k ≤ 4 ∧ y = .slice (some ⟨gy, 0, none⟩) N cy ∧ Hid (qs = turnN hs k) ∧ Hid (PtsAt wr gy 0 qs ∧ N ≤ cy) ∧ Hid (Below V.heap.size V wr)) (fun _ i _ => 4 - (intOf i).toNat)
  case atStart => exact ⟨0, g, c2, hs, rfl, by omega, rfl, Lib.hid rfl, Lib.hid ⟨HP4.out, HCC'.out⟩, Lib.hid (Below.refl _ _)⟩
  case round =>
    obtain ⟨k, gy, cy, qs, rfl, hk, rfl, HQ, HY, HB⟩ := hrel
    by_cases hlt : k < 4
    · have hd : decide ((k : Int) < 4) = true := decide_eq_true (by omega)
      obtain ⟨q1, q2, _, _, _⟩ := turnN_all hs k
      obtain ⟨p1, p2, p3, p4, p5⟩ := turnN_all hs (k + 1)
      rw [← HQ.out] at q1 q2
      rw [CK.out] at q2 p2
      have hmap : turnN hs (k + 1) = qs.map turnP := by rw [turnN, ← HQ.out]
      have HQ' := Lib.hid hmap.symm
      rw [hmap] at p1 p2 p3 p4 p5
      have HTD := Turned_any qs gy cy wr HY.out.1 (by rw [q1, EN.out]; exact HY.out.2) q2
      rw [q1, EN.out] at HTD
      rw [EN.out] at p1
      have P2 := Lib.hid p2
      have P1 := Lib.hid p1
      have P3 := Lib.hid p3
      have P4 := Lib.hid p4
      have P5 := Lib.hid p5
      generalize qs.map turnP = rs at *
      clear q1 q2 p1 p2 p3 p4 p5 hmap HQ
      go_wp2_with fail
      refine HTD.mono ?_
      rintro e w5 ⟨v3, rfl, o3, hb⟩
      obtain ⟨gt, ct, rfl, hpt, hct⟩ : ∃ g c, v3 = .slice (some ⟨g, 0, none⟩) N c ∧ PtsAt w5 g 0 rs ∧ N ≤ c := by
        obtain ⟨a2, c2, rfl, h⟩ := o3.open
        rcases h with ⟨_, _, h⟩ | ⟨g, hg, rfl, h, hc⟩
        · have := P1.out; rw [h] at this; simp at this; omega
        · exact ⟨g, c2, by rw [P1.out], h, by have := P1.out; omega⟩
      have HB5 := Lib.hid (Below.andThen HB.out hb (Nat.le_refl _))
      have HY5 := Lib.hid hpt
      have HCT := Lib.hid hct
      have HHU := rHull_any rs (some ⟨gt, 0, none⟩) ct w5 (.inr ⟨gt, rfl, hpt, by have := P1.out; omega⟩) (by have := P1.out; omega)
      rw [P1.out, P2.out] at HHU
      clear hb hpt hct o3 HTD HB HY
      go_wp2_with fail
      refine HHU.mono ?_
      rintro e w6 ⟨rfl, hb⟩
      have HB6 := Lib.hid (Below.andThen HB5.out hb (Nat.le_refl _))
      have HY6 := Lib.hid (HY5.out.grow hb)
      clear hb HHU HB5 HY5
      have HRR := Rests_any rs gt ct w6 HY6.out P2.out (chk_area P2.out)
      rw [P3.out, P1.out, ← EN.out, ER.out, EN.out] at HRR
      go_wp2_with fail
      refine HRR.mono ?_
      rintro e w7 ⟨v4, rfl, o4, hb⟩
      have HB7 := Lib.hid (Below.andThen HB6.out hb (Nat.le_refl _))
      have HY7 := Lib.hid (HY6.out.grow hb)
      have O7 := Lib.hid o4
      clear hb HRR HB6 HY6 o4
      have HTP := Tips_any rs gt ct w7 HY7.out P2.out (chk_area P2.out)
      rw [P4.out, P1.out, ← EN.out, ET.out, EN.out] at HTP
      go_wp2_with fail
      refine HTP.mono ?_
      rintro e w8 ⟨v5, rfl, o5, hb⟩
      have HB8 := Lib.hid (Below.andThen HB7.out hb (Nat.le_refl _))
      have HY8 := Lib.hid (HY7.out.grow hb)
      have O8 := Lib.hid (own_grow O7.out hb)
      have U8 := Lib.hid o5
      clear hb HTP HB7 HY7 O7 o5
      have I8 := ints_own (own_grow R4.out HB8.out) O8.out lR.out
      go_wp2_with fail
      refine I8.mono ?_
      rintro e w9 ⟨rfl, hb⟩
      have HB9 := Lib.hid (Below.andThen HB8.out hb (Nat.le_refl _))
      have HY9 := Lib.hid (HY8.out.grow hb)
      have U9 := Lib.hid (own_grow U8.out hb)
      clear hb I8 HB8 HY8 O8 U8
      have I9 := ints_own (own_grow F4.out HB9.out) U9.out lT.out
      go_wp2_with fail
      refine I9.mono ?_
      rintro e w10 ⟨rfl, hb⟩
      have HB10 := Lib.hid (Below.andThen HB9.out hb (Nat.le_refl _))
      have HY10 := Lib.hid (HY9.out.grow hb)
      clear hb I9 HB9 HY9 U9
      have HNY := Lib.hid (fun W t (h : PtsAt W gt 0 rs) (ht : t < N) => (show Calls Try.prog 30 #[.slice (some ⟨gt, 0, none⟩) N ct, .int .i64 (t : Int)] W fun e w' => e = .returned (.tuple #[.agg #[.int .i64 (leanF hs (mid hs) t).1, .int .i64 (leanF hs (mid hs) t).2], .int .i64 0]) ∧ Below W.heap.size W w' by
        have := Lean_any rs gt ct t W h P2.out (chk_area P2.out) (by rw [P1.out]; exact ht)
        rw [P5.out, P1.out] at this
        exact this))
      go_wp2_with fail
      go_loopw [21] (fun i wx => ∃ j : Nat, j ≤ N ∧ i = .int .i64 (j : Int) ∧ Hid (Below V.heap.size V wx) ∧ Hid (PtsAt wx gt 0 rs)) (fun i _ => N - (intOf i).toNat)
      case atStart => exact ⟨0, by omega, rfl, HB10, HY10⟩
      case round =>
        clear HB10 HY10
        obtain ⟨j, hj, rfl, HB, HY⟩ := hrel
        by_cases hjl : j < N
        · have hd2 : decide ((j : Int) < (N : Int)) = true := decide_eq_true (by omega)
          have HN1 := HN.out wr j (HP4.out.grow HB.out) hjl
          have HN2 := Lib.hid (fun W h => HNY.out W j h hjl)
          obtain ⟨⟨l1, l2⟩, hl⟩ : ∃ v, leanF hs (mid hs) j = v := ⟨_, rfl⟩
          rw [hl] at HN1 HN2
          dsimp only at HN1 HN2
          clear hl
          go_wp2_with fail
          refine HN1.mono ?_
          rintro e w11 ⟨rfl, hb⟩
          obtain ⟨V1, hV1⟩ : ∃ V, V = w11.alloc (.cells #[.int .i64 l1, .int .i64 l2] 39) := ⟨_, rfl⟩
          have hb1 : Below wr.heap.size wr V1 := by rw [hV1]; exact Below.al hb (Nat.le_refl _) _
          have HB11 := Lib.hid (Below.andThen HB.out hb1 (Nat.le_refl _))
          have HY11 := Lib.hid (HY.out.grow hb1)
          have r1 := Lib.hid (show Row V1 w11.heap.size 39 [.int .i64 l1, .int .i64 l2] by rw [hV1]; exact Row.new _ _ _)
          clear hb hb1 HN1 HB HY
          go_wp2_with fail
          rw [← hV1]
          clear hV1
          refine (HN2.out V1 HY11.out).mono ?_
          rintro e w12 ⟨rfl, hb⟩
          obtain ⟨V2, hV2⟩ : ∃ V, V = w12.alloc (.cells #[.int .i64 l1, .int .i64 l2] 39) := ⟨_, rfl⟩
          have hb2 : Below V1.heap.size V1 V2 := by rw [hV2]; exact Below.al hb (Nat.le_refl _) _
          have HB12 := Lib.hid (Below.andThen HB11.out hb2 (Nat.le_refl _))
          have HY12 := Lib.hid (HY11.out.grow hb2)
          have r2 := Lib.hid (r1.out.below hb2 r1.out.lt)
          have r3 := Lib.hid (show Row V2 w12.heap.size 39 [.int .i64 l1, .int .i64 l2] by rw [hV2]; exact Row.new _ _ _)
          have E39 := eq39 l1 l2
          obtain ⟨y0, y1, _, _⟩ := two_cells r2.out
          obtain ⟨y2, y3, _, _⟩ := two_cells r3.out
          rw [hV2] at y0 y1 y2 y3
          clear hb hb2 HN2 HB11 HY11
          go_wp2_with fail
          rw [← hV2]
          refine ⟨⟨j + 1, by omega, by simp, HB12, HY12⟩, ?_⟩
          simp [intOf]; omega
        · have hd2 : decide ((j : Int) < (N : Int)) = false := decide_eq_false (by omega)
          go_wp2_with fail
          refine ⟨⟨k + 1, gt, ct, rs, by simp, by omega, rfl, HQ', Lib.hid ⟨HY.out, HCT.out⟩, HB⟩, ?_⟩
          simp [intOf]; omega
    · have hd : decide ((k : Int) < 4) = false := decide_eq_false (by omega)
      obtain rfl : k = 4 := by omega
      have hq : qs = hs := by rw [HQ.out, turnN_four]
      subst hq
      obtain ⟨i0, hi, hz0, hz1, hz2⟩ := info_parts info58
      have hu : IntKind.u64.wrap (N : Int) = (N : Int) := by rw [u64_wrap]; omega
      obtain ⟨d, hdn, hk1, hk2⟩ : ∃ d : Nat, d < N ∧ wrap64 ((IntKind.u64.wrap fr).tmod (N : Int)) = (d : Int) ∧ IntKind.i64.wrap ((IntKind.u64.wrap fr).tmod (N : Int)) = (d : Int) := by
        have e2 : (IntKind.u64.wrap fr).tmod (N : Int) = IntKind.u64.wrap fr % (N : Int) := Int.tmod_eq_emod_of_nonneg (by rw [u64_wrap]; omega)
        have h1 := Int.emod_nonneg (IntKind.u64.wrap fr) (show (N : Int) ≠ 0 by omega)
        have h2 := Int.emod_lt_of_pos (IntKind.u64.wrap fr) (show (0 : Int) < N by omega)
        refine ⟨(IntKind.u64.wrap fr % (N : Int)).toNat, by omega, ?_, ?_⟩
        · rw [e2, w64_of (by omega) (by omega)]; omega
        · rw [e2, i64_of _ (by omega) (by omega)]; omega
      have s1 : ∀ w, (Instr.slice 22 (.slice (some ⟨g, 0, none⟩) N c2) (some (.int .i64 (d : Int))) none none).run Try.prog w = .ok (.slice (some ⟨g, d * 2, none⟩) (N - d) (c2 - d)) w := fun w => slice_from2 g _ c2 d (by omega) HCC'.out w
      have s2 : ∀ w, (Instr.slice 22 (.slice (some ⟨g, 0, none⟩) N c2) none (some (.int .i64 (d : Int))) none).run Try.prog w = .ok (.slice (some ⟨g, 0, none⟩) d c2) w := fun w => slice_upto _ _ c2 d (by have := HCC'.out; omega) w
      have HPR := Lib.hid (HP4.out.grow HB.out)
      have hn1 := Lib.hid (show ∀ j u, (flat (qs.drop d))[j]? = some u → wr.cell? ((⟨g, d * 2, none⟩ : Addr).add j) = some u by
        have := pts_cells (HPR.out.drop d) (qs.drop d).length
        rwa [List.take_length] at this)
      have hn2 := Lib.hid (fun W (hW : Below wr.heap.size wr W) => pts_cells (HPR.out.grow hW) d)
      have q2 : ¬ ((N : Int) = 0) := by omega
      have q3 : ¬ (N = 0) := by omega
      have L1 := Lib.hid (show (qs.drop d).length = N - d from by rw [List.length_drop, EN.out])
      have L2 := Lib.hid (show (qs.take d).length = d by rw [List.length_take, EN.out]; omega)
      go_wp2_with (first | (at_builtin; refine wpList_append_own_at _ rfl _ _ 22 rfl wr.heap.size 58 i0 (.agg #[.int .i64 0, .int .i64 0]) 2 16 Try.underlying22 hi hz0 hz1 hz2 rfl (by decide) (.slice none 0 0) _ _ rfl (World.ownsRow_nil _ _ _ _) ⟨g, d * 2, none⟩ (N - d) (c2 - d) (flat (qs.drop d)) rfl (by rw [flat_length, L1.out]) hn1.out (flat_one _) (by unfold maxLen; omega) (by omega) (Nat.le_refl _) ?_; intro v1' w13 hown' hgrow hnil hat; have HR1 := Lib.hid hown'; have BG : Hid (Below wr.heap.size wr w13) := Lib.hid ((Below.refl wr.heap.size wr).grown (show wr.grownBy w13 none from hgrow) (Nat.le_refl _) (fun r e => by cases e)); clear hown' hgrow hnil hat) | (at_builtin; refine wpList_append_own_at _ rfl _ _ 22 rfl wr.heap.size 58 i0 (.agg #[.int .i64 0, .int .i64 0]) 2 16 Try.underlying22 hi hz0 hz1 hz2 rfl (by decide) _ _ _ rfl HR1.out ⟨g, 0, none⟩ d c2 (flat (qs.take d)) rfl (by rw [flat_length, L2.out]) (hn2.out _ BG.out) (flat_one _) (by unfold maxLen; omega) (by omega) BG.out.size ?_; intro v2' w14 hown' hgrow hnil hat; have HR2 := Lib.hid hown'; have B4 := Lib.hid (own_belowP HR1.out rfl BG.out BG.out hgrow); clear hown' hgrow hnil hat))
      have HRL := Lib.hid (show OwnP w14 wr.heap.size v2' (rotL qs d) by
        have h := HR2.out
        rw [List.nil_append, Nat.zero_add] at h
        unfold OwnP rotL
        rw [flat_append, List.length_append, L1.out, L2.out]
        exact h)
      have lRL := Lib.hid (show (rotL qs d).length = N by rw [rotL_len, EN.out])
      obtain ⟨gm, cm, rfl, hpm, hcm⟩ : ∃ g c, v2' = .slice (some ⟨g, 0, none⟩) N c ∧ PtsAt w14 g 0 (rotL qs d) ∧ N ≤ c := by
        obtain ⟨a2, c2, rfl, h⟩ := HRL.out.open
        rcases h with ⟨_, _, h⟩ | ⟨g, hg, rfl, h, hc⟩
        · have := lRL.out; rw [h] at this; simp at this; omega
        · exact ⟨g, c2, by rw [lRL.out], h, by have := lRL.out; omega⟩
      have HPM := Lib.hid hpm
      have hdq : d ≤ qs.length := by rw [EN.out]; omega
      have CKR := Lib.hid (rotL_chk hdq CK.out)
      have hmid := rotL_mid hdq (by rw [EN.out]; omega)
      have hcnt := rotL_count hdq (by rw [EN.out]; omega) (mid qs)
      have HSG := Lib.hid (fun j (hj : j < (sidesL (restB (rotL qs d) (mid qs)) N).length) => sides_get (restB (rotL qs d) (mid qs)) N hj)
      have HRT := Lib.hid (fun t (ht : t < N) => rotL_rest (ps := qs) (k := d) (i := t) hdq (by rw [EN.out]; exact ht) (mid qs))
      have HMS := Lib.hid (fun t (ht : t < qs.length) => mem_sides (p := restB qs (mid qs)) ht)
      have HRS := Rests_any (rotL qs d) gm cm w14 HPM.out CKR.out (chk_area CKR.out)
      rw [lRL.out, hmid] at HRS
      have HMD := Lib.hid (fun W (h : PtsAt W gm 0 (rotL qs d)) => Middle_any (rotL qs d) gm cm W h CKR.out (chk_area CKR.out))
      rw [lRL.out, hmid, EM.out] at HMD
      dsimp only at HMD
      rw [EN.out] at hcnt
      have hRe : sidesL (restB qs (mid qs)) N = R := by rw [← EN.out]; exact ER.out
      rw [hRe] at hcnt
      rw [EN.out, hRe] at HMS
      rw [EN.out] at HRT
      obtain ⟨S, hS⟩ : ∃ S, sidesL (restB (rotL qs d) (mid qs)) N = S := ⟨_, rfl⟩
      rw [hS] at HRS HSG hcnt
      have B14 := Lib.hid (Below.andThen HB.out B4.out (Nat.le_refl _))
      have HCN := Lib.hid hcnt
      have lS := Lib.hid (show S.length ≤ 1000 by rw [hcnt]; exact lR.out)
      have hPRS : Hid (∀ W, PtsA W (some ⟨gy, 0, none⟩) qs cy → PtsA W (some ⟨g, 0, none⟩) qs c2 → Calls Try.prog 43 #[.slice (some ⟨gy, 0, none⟩) N cy, .slice (some ⟨g, 0, none⟩) N c2] W fun e w' => e = .returned (.bool true) ∧ Below W.heap.size W w') := Lib.hid (fun W h1 h2 => by
        have := pairs_any qs qs (some ⟨gy, 0, none⟩) (some ⟨g, 0, none⟩) cy c2 W h1 h2 rfl (by rw [EN.out]; omega)
        rw [decide_eq_true (show qs = qs from rfl), EN.out] at this
        exact this)
      clear hS hRe hmid HRL HR1 HR2 hpm hcm hn1 hn2 s1 s2 BG L1 L2 ER ET hcnt
      refine HRS.mono ?_
      rintro e w15 ⟨v6, rfl, o6, hb⟩
      have HB15 := Lib.hid (Below.andThen B14.out hb (Nat.le_refl _))
      have HPM15 := Lib.hid (HPM.out.grow hb)
      have O15 := Lib.hid o6
      have HY15 := Lib.hid (HY.out.1.grow (Below.andThen B4.out hb (Nat.le_refl _)))
      clear hb HRS o6 B14 HPM
      go_wp2_with fail
      refine (HMD.out w15 HPM15.out).mono ?_
      rintro e w16 ⟨rfl, hb⟩
      obtain ⟨V3, hV3⟩ : ∃ V, V = w16.alloc (.cells #[.int .i64 X, .int .i64 Y, .int .i64 D] 29) := ⟨_, rfl⟩
      have hb3 : Below w15.heap.size w15 V3 := by rw [hV3]; exact Below.al hb (Nat.le_refl _) _
      have HB16 := Lib.hid (Below.andThen HB15.out hb3 (Nat.le_refl _))
      have O16 := Lib.hid (own_grow O15.out hb3)
      have HY16 := Lib.hid (HY15.out.grow hb3)
      have rO := Lib.hid (show Row V3 w16.heap.size 29 [.int .i64 X, .int .i64 Y, .int .i64 D] by rw [hV3]; exact Row.new _ _ _)
      have rM := Lib.hid (M4.out.below HB16.out M4.out.lt)
      have m0 := rO.out.cell 0
      have m1 := rO.out.cell 1
      have m2 := rO.out.cell 2
      have m3 := rM.out.cell 0
      have m4 := rM.out.cell 1
      have m5 := rM.out.cell 2
      simp only [List.getElem?_cons_zero, List.getElem?_cons_succ] at m0 m1 m2 m3 m4 m5
      rw [hV3] at m0 m1 m2 m3 m4 m5
      have E29 := eq29 X Y D
      obtain ⟨a6, c6, rfl, hi6⟩ : ∃ a c, v6 = .slice a S.length c ∧ (S = [] ∨ ∃ g, a = some ⟨g, 0, none⟩ ∧ g < V3.heap.size ∧ IntsAt V3 g 0 S) := by
        rcases oints O16.out with ⟨rfl, a, c, rfl⟩ | ⟨g, c, rfl, hg, _, hi⟩
        · exact ⟨a, c, rfl, .inl rfl⟩
        · exact ⟨_, c, rfl, .inr ⟨g, rfl, hg, hi⟩⟩
      obtain ⟨a7, c7, rfl⟩ : ∃ a c, v1 = .slice a R.length c := by
        rcases oints R4.out with ⟨h0, a, c, rfl⟩ | ⟨g, c, rfl, hg, _, hi⟩
        · exact ⟨a, c, by rw [h0]; rfl⟩
        · exact ⟨_, c, rfl⟩
      have I16 := Lib.hid hi6
      have dL : ((S.length : Int) != (R.length : Int)) = false := by rw [HCN.out]; simp
      have HP16 := Lib.hid (HP4.out.grow HB16.out)
      have hPR := hPRS.out V3 (.inr ⟨gy, 0, rfl, HY16.out, by rw [EN.out]; exact HY.out.2⟩) (.inr ⟨g, 0, rfl, HP16.out, by rw [EN.out]; exact HCC'.out⟩)
      clear hb hb3 HMD HB15 O15 HY15 HPM15 hi6 hPRS
      go_wp2_with fail
      rw [← hV3]
      clear hV3 m0 m1 m2 m3 m4 m5 E29
      refine hPR.mono ?_
      rintro e w17 ⟨rfl, hb⟩
      have HB17 := Lib.hid (Below.andThen HB16.out hb (Nat.le_refl _))
      have I17 := Lib.hid (show S = [] ∨ ∃ g, a6 = some ⟨g, 0, none⟩ ∧ g < w17.heap.size ∧ IntsAt w17 g 0 S by
        rcases I16.out with h | ⟨g, h1, h2, h3⟩
        · exact .inl h
        · exact .inr ⟨g, h1, Nat.lt_of_lt_of_le h2 hb.size, h3.below hb h2⟩)
      clear hb hPR HB16 I16 HY16 O16 rO rM
      go_wp2_with fail
      go_loopw [32] (fun i wx => ∃ j : Nat, j ≤ S.length ∧ i = .int .i64 (j : Int) ∧ Hid (Below w17.heap.size w17 wx)) (fun i _ => S.length - (intOf i).toNat)
      case atStart => exact ⟨0, by omega, rfl, Lib.hid (Below.refl _ _)⟩
      case round =>
        obtain ⟨j, hj, rfl, HBX⟩ := hrel
        by_cases hjl : j < S.length
        · have hd2 : decide ((j : Int) < (S.length : Int)) = true := decide_eq_true (by omega)
          have hS1000 := lS.out
          obtain ⟨t, ht, hpt, hst⟩ := HSG.out j hjl
          obtain ⟨g6, rfl, hg6, hz6⟩ : ∃ g, a6 = some ⟨g, 0, none⟩ ∧ g < w17.heap.size ∧ IntsAt w17 g 0 S := by
            rcases I17.out with h | h
            · rw [h] at hjl; simp at hjl
            · exact h
          have cj := below_at HBX.out hg6 (hz6.at_ j hjl)
          rw [Nat.zero_add, hst] at cj
          obtain ⟨z, hz⟩ : ∃ z, (t + d) % N = z := ⟨_, rfl⟩
          have hzN : z < N := by rw [← hz]; exact Nat.mod_lt _ (by omega)
          have ez2 : ((t : Int) + (d : Int)) % (N : Int) = (z : Int) := by rw [← hz, Int.natCast_emod]; rfl
          have ez1 : ((t : Int) + (d : Int)).tmod (N : Int) = (z : Int) := by rw [Int.tmod_eq_emod_of_nonneg (by omega)]; exact ez2
          have w1' : IntKind.i64.wrap ((t : Int) + (d : Int)) = (t : Int) + (d : Int) := i64_of _ (by omega) (by omega)
          have hrt := HRT.out t ht
          rw [hz, hpt] at hrt
          have hms := HMS.out z hzN
          rw [← hrt] at hms
          have HH := has_any R (z : Int) wr (own_grow R4.out (Below.andThen HB17.out HBX.out (Nat.le_refl _))) lR.out
          rw [hms] at HH
          have t1 : decide ((t : Int) < 0) = false := decide_eq_false (by omega)
          have t2 : decide ((N : Int) ≤ (t : Int)) = false := decide_eq_false (by omega)
          have t3 : decide (N ≤ t) = false := decide_eq_false (by omega)
          clear hst hpt hz6 hrt hms hz
          go_wp2_with fail
          refine HH.mono ?_
          rintro e w18 ⟨rfl, hb⟩
          have HB18 := Lib.hid (Below.andThen HBX.out hb (Nat.le_refl _))
          clear hb HH cj
          go_wp2_with fail
          refine ⟨⟨j + 1, by omega, by simp, HB18⟩, ?_⟩
          simp [intOf]; omega
        · have hd2 : decide ((j : Int) < (S.length : Int)) = false := decide_eq_false (by omega)
          go_wp2_with fail
          refine (awake_any _).mono ?_
          rintro e w18 ⟨rfl, hb⟩
          have T18 := Lib.hid (Below.andThen T4.out (Below.andThen HB17.out (Below.andThen HBX.out hb (Nat.le_refl _)) (Nat.le_refl _)) (Nat.le_refl _))
          clear hb
          go_wp2_with fail
          go_ret
          exact ⟨rfl, T18.out⟩
end Go.Proofs.Ytlehddifcjklgaa
