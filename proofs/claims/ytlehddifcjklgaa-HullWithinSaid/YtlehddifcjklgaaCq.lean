import Derived.Test.YtlehddifcjklgaaCp
import Derived.Maps.OwnIn
import Derived.Maps.OwnSet
import Derived.Maps.AppendAt
import Derived.RangeFuncNested
import Derived.RangeFuncBound
import Derived.RangeFuncCalls
import Derived.RangeFuncLeaves
import Derived.Shelf.Abstract
import Derived.Shelf.RegionOpen
import Derived.WalkKit
import Derived.OwnWalkIn
import Derived.TacticsInMore
import Derived.LoopNIn
import Derived.LoopIn
import Derived.WalkMore
import Derived.Sort.QuietThIn
import Derived.Sort.QuietTacIn
import Derived.Sort.BigQuietIn
import Derived.WalkSpells
import Derived.WalkLawsBesides
import Derived.BigQuiet
import Derived.Deep.QuietTactic
import Derived.Lib.Hide
import Derived.Deep.RegionHeld3
import Derived.StillTailTactics
import Derived.Deep.LoopGhost
import Derived.Lib.IndexAny
namespace Go.Proofs.Ytlehddifcjklgaa
open Go.RowKit Go.Shelf
attribute [local go_sem] Oper.semAt_some
set_option maxRecDepth 100000 in
set_option maxHeartbeats 1000000 in
theorem rRests_any (ps : List Pt) (b c : Nat) (fm : Bool) (w : World) (hp : PtsAt w b 0 ps) (hck : chk ps = true) :
    Calls Try.prog 35 #[.slice (some ⟨b, 0, none⟩) ps.length c, .bool fm] w fun e w' => ∃ v, e = .returned v ∧ w'.ownsRow w.heap.size 3 1 v (sidesL (fun s => if fm then firmB ps (mid ps) s else restB ps (mid ps) s) ps.length).length ((sidesL (fun s => if fm then firmB ps (mid ps) s else restB ps (mid ps) s) ps.length).map encI) ∧ Below w.heap.size w w' := by
  have ha := chk_areP hck
  obtain ⟨h3, h12⟩ := areP_len ha
  obtain ⟨i0, hi, hz0, hz1, hz2⟩ := info_parts info3
  have HP := Lib.hid hp
  obtain ⟨p, hpd⟩ : ∃ p, (fun s => if fm then firmB ps (mid ps) s else restB ps (mid ps) s) = p := ⟨_, rfl⟩
  have HF : Hid (∀ W s, s < ps.length → PtsAt W b 0 ps → Calls Try.prog 81 #[.slice (some ⟨b, 0, none⟩) ps.length c, .int .i64 (s : Int), .bool fm] W fun e w' => e = .returned (.bool (p s)) ∧ Below W.heap.size W w') := Lib.hid (by
    intro W s hs h
    have := rRest_any ps b c s fm W h hck hs
    rw [← hpd]; exact this)
  rw [hpd]
  clear hp hck ha hpd
  obtain ⟨W0, hW0⟩ : ∃ W0, W0 = w := ⟨_, rfl⟩
  rw [← hW0] at HP ⊢
  clear hW0
  go_enter Try.func35, Try.ntmps35
  go_wp2_with fail
  go_loopw [5, 6] (fun v i wr => ∃ k : Nat, k ≤ ps.length ∧ i = .int .i64 (k : Int) ∧ Hid (wr.ownsRow W0.heap.size 3 1 v (sidesL p k).length ((sidesL p k).map encI)) ∧ Hid (Below W0.heap.size W0 wr)) (fun _ i _ => ps.length - (intOf i).toNat)
  case atStart => exact ⟨0, by omega, rfl, Lib.hid (World.ownsRow_nil _ _ _ _), Lib.hid (Below.refl _ _)⟩
  case round =>
    obtain ⟨k, hk, rfl, HR, HB⟩ := hrel
    by_cases hlt : k < ps.length
    · have hd : decide ((k : Int) < (ps.length : Int)) = true := by simp; omega
      go_wp2_with fail
      refine (HF.out wr k hlt (HP.out.grow HB.out)).mono ?_
      rintro e w1 ⟨rfl, hb⟩
      have HB1 := Lib.hid (Below.andThen HB.out hb (Nat.le_refl _))
      have HR1 := Lib.hid (own_grow HR.out hb)
      have hll := sidesL_length p k
      clear hb HB HR
      cases hpk : p k
      · have e1 : sidesL p (k + 1) = sidesL p k := by rw [sidesL_succ, hpk]; rfl
        have E1 := Lib.hid e1
        clear e1 hpk
        go_wp2_with fail
        go_roundw
        case rel => exact ⟨k + 1, by omega, rfl, by rw [E1.out]; exact HR1, HB1⟩
        case measure => simp [intOf]; omega
      · have e1 : sidesL p (k + 1) = sidesL p k ++ [(k : Int)] := by rw [sidesL_succ, hpk]; rfl
        have E1 := Lib.hid e1
        clear e1 hpk
        generalize sidesL p k = L at *
        go_wp2_with (at_builtin; refine wpList_append_own_at _ rfl _ _ 32 rfl W0.heap.size 3 i0 (.int .i64 0) 1 8 Try.underlying32 hi hz0 hz1 hz2 rfl (by decide) _ _ _ rfl (HR1.out.alloc _) _ 1 1 [encI (k : Int)] rfl rfl (cell_one_at _ _ _ _ (by simp)) (by simp [Value.oneCell', encI]) (by unfold maxLen; omega) (by omega) (Nat.le_trans HB1.out.size (by simp)) ?_; intro v' w2 hown' hgrow hnil hat; have HR2 := Lib.hid hown'; have HB2 := Lib.hid (own_below HR1.out HB1.out hgrow); clear hown' hgrow hnil hat)
        go_roundw
        case rel => exact ⟨k + 1, by omega, rfl, by rw [E1.out]; exact Lib.hid (by simpa using HR2.out), HB2⟩
        case measure => simp [intOf]; omega
    · have hd : decide ((k : Int) < (ps.length : Int)) = false := by simp; omega
      obtain rfl : k = ps.length := by omega
      go_wp2_with fail
      go_ret
      exact ⟨_, rfl, HR.out, HB.out⟩
set_option maxRecDepth 100000 in
set_option maxHeartbeats 1000000 in
theorem rTips_any (ps : List Pt) (b c : Nat) (w : World) (hp : PtsAt w b 0 ps) (hck : chk ps = true) :
    Calls Try.prog 36 #[.slice (some ⟨b, 0, none⟩) ps.length c] w fun e w' => ∃ v, e = .returned v ∧ w'.ownsRow w.heap.size 3 1 v (sidesL (tipB ps (mid ps)) ps.length).length ((sidesL (tipB ps (mid ps)) ps.length).map encI) ∧ Below w.heap.size w w' := by
  have ha := chk_areP hck
  have hA := chk_area hck
  obtain ⟨h3, h12⟩ := areP_len ha
  obtain ⟨m1, m2, m3, m4⟩ := mid_facts ha hA
  obtain ⟨i0, hi, hz0, hz1, hz2⟩ := info_parts info3
  have hRM := rMiddle_any ps b c w hp ha hA
  have HP := Lib.hid hp
  have HBD := Lib.hid (fun k (hk : k < ps.length) => ptAt_bd ha hk)
  obtain ⟨X, hX⟩ : ∃ v, (mid ps).1 = v := ⟨_, rfl⟩
  obtain ⟨Y, hY⟩ : ∃ v, (mid ps).2.1 = v := ⟨_, rfl⟩
  obtain ⟨D, hDD⟩ : ∃ v, (mid ps).2.2 = v := ⟨_, rfl⟩
  have hmid : mid ps = (X, Y, D) := by rw [← hX, ← hY, ← hDD]
  rw [hX, hY, hDD] at hRM
  rw [hX] at m1
  rw [hY] at m2
  rw [hDD] at m3
  have HTP := Lib.hid (show ∀ i, tipB ps (mid ps) i = (decide (0 < alF (X, Y, D) (ptAt ps i) (nx ps i)) && decide (0 < alF (X, Y, D) (ptAt ps i) (pv ps i))) from fun i => by
    have e1 : alF (X, Y, D) (ptAt ps i) (nx ps i) = dt (inw (X, Y, D) (ptAt ps i)) (mn (nx ps i) (ptAt ps i)) := by unfold alF dt inw mn; dsimp only; grind
    have e2 : alF (X, Y, D) (ptAt ps i) (pv ps i) = dt (inw (X, Y, D) (ptAt ps i)) (mn (pv ps i) (ptAt ps i)) := by unfold alF dt inw mn; dsimp only; grind
    rw [e1, e2, hmid]; unfold tipB; rw [Bool.and_comm])
  generalize tipB ps (mid ps) = p at *
  have HAL := Lib.hid (fun W a1 a2 b1 b2 (h1 : Bd 20 a1) (h2 : Bd 20 a2) (h3 : Bd 20 b1) (h4 : Bd 20 b2) => rAlong_any X Y D a1 a2 b1 b2 W m1 m2 m3 h1 h2 h3 h4)
  clear hp hck ha hA m1 m2 m3 m4 hX hY hDD hmid
  go_enter Try.func36, Try.ntmps36
  go_wp2_with fail
  refine hRM.mono ?_
  rintro e w1 ⟨rfl, hb⟩
  obtain ⟨W0, hW0⟩ : ∃ W0, W0 = w1.alloc (.cells #[.int .i64 X, .int .i64 Y, .int .i64 D] 29) := ⟨_, rfl⟩
  have B0 := Lib.hid (show Below w.heap.size w W0 by rw [hW0]; exact Below.al hb (Nat.le_refl _) _)
  have r0 := Lib.hid (show Row W0 w1.heap.size 29 [.int .i64 X, .int .i64 Y, .int .i64 D] by rw [hW0]; exact Row.new _ _ _)
  have HP0 := Lib.hid (HP.out.grow B0.out)
  clear hb hRM
  go_wp2_with fail
  rw [← hW0]
  clear hW0
  go_loopw [3, 6] (fun v i wr => ∃ k : Nat, k ≤ ps.length ∧ i = .int .i64 (k : Int) ∧ Hid (wr.ownsRow W0.heap.size 3 1 v (sidesL p k).length ((sidesL p k).map encI)) ∧ Hid (Below W0.heap.size W0 wr)) (fun _ i _ => ps.length - (intOf i).toNat)
  case atStart => exact ⟨0, by omega, rfl, Lib.hid (World.ownsRow_nil _ _ _ _), Lib.hid (Below.refl _ _)⟩
  case round =>
    obtain ⟨k, hk, rfl, HR, HB⟩ := hrel
    by_cases hlt : k < ps.length
    · have hd : decide ((k : Int) < (ps.length : Int)) = true := by simp; omega
      have hd' : decide (k < ps.length) = true := decide_eq_true hlt
      obtain ⟨j, hj⟩ : ∃ j, (k + 1) % ps.length = j := ⟨_, rfl⟩
      have hjl : j < ps.length := by rw [← hj]; exact Nat.mod_lt _ (by omega)
      have ej2 : ((k : Int) + 1) % (ps.length : Int) = (j : Int) := by rw [← hj, Int.natCast_emod]; rfl
      have ej1 : ((k : Int) + 1).tmod (ps.length : Int) = (j : Int) := by
        rw [Int.tmod_eq_emod_of_nonneg (by omega)]; exact ej2
      obtain ⟨z, hz⟩ : ∃ z, (k + ps.length - 1) % ps.length = z := ⟨_, rfl⟩
      have hzl : z < ps.length := by rw [← hz]; exact Nat.mod_lt _ (by omega)
      have ez2 : ((k : Int) + (ps.length : Int) - 1) % (ps.length : Int) = (z : Int) := by
        rw [← hz, Int.natCast_emod]; congr 1; omega
      have ez1 : ((k : Int) + (ps.length : Int) - 1).tmod (ps.length : Int) = (z : Int) := by
        rw [Int.tmod_eq_emod_of_nonneg (by omega)]; exact ez2
      have z1 : ¬ ((ps.length : Int) = 0) := by omega
      have z2 : ¬ (ps.length = 0) := by omega
      have z3 : ¬ (ps = []) := fun h => by subst h; simp at hlt
      have i1 : (0 : Int) ≤ (k : Int) := by omega
      have i2 : (0 : Int) ≤ (j : Int) := by omega
      have i3 : (j : Int) < (ps.length : Int) := by omega
      have i4 : (k : Int) < (ps.length : Int) := by omega
      have i5 : (0 : Int) ≤ (z : Int) := by omega
      have i6 : (z : Int) < (ps.length : Int) := by omega
      have w1' : IntKind.i64.wrap ((k : Int) + 1) = (k : Int) + 1 := i64_of _ (by omega) (by omega)
      have w2' : IntKind.i64.wrap ((k : Int) + (ps.length : Int)) = (k : Int) + (ps.length : Int) := i64_of _ (by omega) (by omega)
      have w3' : IntKind.i64.wrap ((k : Int) + (ps.length : Int) - 1) = (k : Int) + (ps.length : Int) - 1 := i64_of _ (by omega) (by omega)
      have hxw := below_at HB.out HP0.out.lt (HP0.out.x k hlt)
      have hyw := below_at HB.out HP0.out.lt (HP0.out.y k hlt)
      have hx2w := below_at HB.out HP0.out.lt (HP0.out.x j hjl)
      have hy2w := below_at HB.out HP0.out.lt (HP0.out.y j hjl)
      have hx3w := below_at HB.out HP0.out.lt (HP0.out.x z hzl)
      have hy3w := below_at HB.out HP0.out.lt (HP0.out.y z hzl)
      have hnx : nx ps k = ptAt ps j := by unfold nx; rw [hj]
      have hpv : pv ps k = ptAt ps z := by unfold pv; rw [hz]
      have b1 := HBD.out k hlt
      have b2 := HBD.out j hjl
      have b3 := HBD.out z hzl
      rw [Nat.zero_add] at hxw hyw hx2w hy2w hx3w hy3w
      rw [← ptAt_lt hlt] at hxw hyw
      rw [← ptAt_lt hjl] at hx2w hy2w
      rw [← ptAt_lt hzl] at hx3w hy3w
      have HTK := HTP.out k
      rw [hnx, hpv] at HTK
      generalize ptAt ps k = pk at *
      generalize ptAt ps j = pj at *
      generalize ptAt ps z = pz at *
      obtain ⟨k1, k2⟩ := pk
      obtain ⟨j1, j2⟩ := pj
      obtain ⟨q1, q2⟩ := pz
      dsimp only at hxw hyw hx2w hy2w hx3w hy3w b1 b2 b3
      have O1 := HAL.out
      have O1 := Lib.hid (fun W => HAL.out W k1 k2 j1 j2 b1.1 b1.2 b2.1 b2.2)
      have O2 := Lib.hid (fun W => HAL.out W k1 k2 q1 q2 b1.1 b1.2 b3.1 b3.2)
      obtain ⟨x1, hx1⟩ : ∃ x, alF (X, Y, D) (k1, k2) (j1, j2) = x := ⟨_, rfl⟩
      obtain ⟨x2, hx2⟩ : ∃ x, alF (X, Y, D) (k1, k2) (q1, q2) = x := ⟨_, rfl⟩
      rw [hx1] at O1 HTK
      rw [hx2] at O2 HTK
      have rr := r0.out.below HB.out r0.out.lt
      have hlw : b < wr.heap.size := Nat.lt_of_lt_of_le HP0.out.lt HB.out.size
      have u0 := Kl.cell hlw hxw
      have u1 := Kl.cell hlw hyw
      have u2 := Kl.cell hlw hx2w
      have u3 := Kl.cell hlw hy2w
      have u4 := Kl.cell hlw hx3w
      have u5 := Kl.cell hlw hy3w
      have u6 := Kl.cell rr.lt (rr.cell 0)
      have u7 := Kl.cell rr.lt (rr.cell 1)
      have u8 := Kl.cell rr.lt (rr.cell 2)
      clear hxw hyw hx2w hy2w hx3w hy3w b1 b2 b3 hnx hpv hx1 hx2 hj hz rr hlw hd'
      obtain ⟨t1, ht1⟩ : ∃ t, decide (0 < x1) = t := ⟨_, rfl⟩
      obtain ⟨t2, ht2⟩ : ∃ t, decide (0 < x2) = t := ⟨_, rfl⟩
      rw [ht1, ht2] at HTK
      have HTK2 := Lib.hid HTK
      have hll := sidesL_length p k
      clear HTK
      cases t1
      · go_wp2_with fail
        refine wp_region_below (by kernel_rfl) (by kernel_rfl) ?_
        iterate 12 (go_big_quiet_step (fail))
        go_big_quiet_step (first | (go_at_call 82; exact Kl.call (O1.out _)))
        repeat (go_big_quiet_step (fail))
        refine wpQuiet_nil ?_
        rintro _ ⟨wq, rfl⟩
        have HB1 := Lib.hid (Below.andThen HB.out wq.h (Nat.le_refl _))
        have HR1 := Lib.hid (own_grow HR.out wq.h)
        generalize wq.W = w5 at *
        clear u0 u1 u2 u3 u4 u5 u6 u7 u8 HB HR
        have E1 := Lib.hid (show sidesL p (k + 1) = sidesL p k by rw [sidesL_succ, HTK2.out]; rfl)
        go_wp2_with fail
        refine ⟨⟨k + 1, by omega, by simp, by rw [E1.out]; exact HR1, HB1⟩, ?_⟩
        simp [intOf]; omega
      · go_wp2_with fail
        refine wp_region_below (by kernel_rfl) (by kernel_rfl) ?_
        iterate 12 (go_big_quiet_step (fail))
        go_big_quiet_step (first | (go_at_call 82; exact Kl.call (O1.out _)))
        iterate 16 (go_big_quiet_step (fail))
        go_big_quiet_step (first | (go_at_call 82; exact Kl.call (O2.out _)))
        repeat (go_big_quiet_step (fail))
        refine wpQuiet_nil ?_
        rintro _ ⟨wq, rfl⟩
        have HB1 := Lib.hid (Below.andThen HB.out wq.h (Nat.le_refl _))
        have HR1 := Lib.hid (own_grow HR.out wq.h)
        generalize wq.W = w5 at *
        clear u0 u1 u2 u3 u4 u5 u6 u7 u8 HB HR
        cases t2
        · have E1 := Lib.hid (show sidesL p (k + 1) = sidesL p k by rw [sidesL_succ, HTK2.out]; rfl)
          go_wp2_with fail
          refine ⟨⟨k + 1, by omega, by simp, by rw [E1.out]; exact HR1, HB1⟩, ?_⟩
          simp [intOf]; omega
        · have E1 := Lib.hid (show sidesL p (k + 1) = sidesL p k ++ [(k : Int)] by rw [sidesL_succ, HTK2.out]; rfl)
          generalize sidesL p k = L at *
          go_wp2_with (at_builtin; refine wpList_append_own_at _ rfl _ _ 32 rfl W0.heap.size 3 i0 (.int .i64 0) 1 8 Try.underlying32 hi hz0 hz1 hz2 rfl (by decide) _ _ _ rfl (HR1.out.alloc _) _ 1 1 [encI (k : Int)] rfl rfl (cell_one_at _ _ _ _ (by simp)) (by simp [Value.oneCell', encI]) (by unfold maxLen; omega) (by omega) (Nat.le_trans HB1.out.size (by simp)) ?_; intro v' w2 hown' hgrow hnil hat; have HR2 := Lib.hid hown'; have HB2 := Lib.hid (own_below HR1.out HB1.out hgrow); clear hown' hgrow hnil hat)
          refine ⟨⟨k + 1, by omega, by simp, by rw [E1.out]; exact Lib.hid (by simpa using HR2.out), HB2⟩, ?_⟩
          simp [intOf]; omega
    · have hd : decide ((k : Int) < (ps.length : Int)) = false := by simp; omega
      obtain rfl : k = ps.length := by omega
      go_wp2_with fail
      go_ret
      exact ⟨_, rfl, ownsRow_lower HR.out B0.out.size, Below.andThen B0.out HB.out (Nat.le_refl _)⟩
end Go.Proofs.Ytlehddifcjklgaa
