import Derived.Test.YtlehddifcjklgaaCh
import Derived.Maps.OwnIn
import Derived.Maps.OwnSet
import Derived.Maps.AppendAt
import Derived.RangeFuncNested
import Derived.RangeFuncBound
import Derived.RangeFuncCalls
import Derived.RangeFuncLeaves
import Derived.Shelf.Abstract
import Derived.Shelf.RegionOpen
import Derived.WalkKit
import Derived.OwnWalkIn
import Derived.TacticsInMore
import Derived.LoopNIn
import Derived.LoopIn
import Derived.WalkMore
import Derived.Sort.QuietThIn
import Derived.Sort.QuietTacIn
import Derived.Sort.BigQuietIn
import Derived.WalkSpells
import Derived.WalkLawsBesides
import Derived.BigQuiet
import Derived.Deep.QuietTactic
import Derived.Lib.Hide
import Derived.Deep.RegionHeld3
import Derived.StillTailTactics
import Derived.Deep.LoopGhost
import Derived.Lib.IndexAny
namespace Go.Proofs.Ytlehddifcjklgaa
open Go.RowKit Go.Shelf
attribute [local go_sem] Oper.semAt_some
set_option maxRecDepth 100000 in
set_option maxHeartbeats 2000000 in
theorem rMiddle_any (ps : List Pt) (b c : Nat) (w : World) (hp : PtsAt w b 0 ps) (ha : areP ps = true) (hA : 0 < area ps) :
    Calls Try.prog 33 #[.slice (some ⟨b, 0, none⟩) ps.length c] w fun e w' => e = .returned (.agg #[.int .i64 (mid ps).1, .int .i64 (mid ps).2.1, .int .i64 (mid ps).2.2]) ∧ Below w.heap.size w w' := by
  obtain ⟨h3, h12⟩ := areP_len ha
  have HP := Lib.hid hp
  have HA := Lib.hid ha
  have HA0 := Lib.hid hA
  have HXS := Lib.hid (fun k (hk : k ≤ ps.length) => psum_bd (f := xAt ps) (n := ps.length) (m := 32000) (by omega) (fun i hi => xAt_bd ha hi) k hk)
  have HYS := Lib.hid (fun k (hk : k ≤ ps.length) => psum_bd (f := yAt ps) (n := ps.length) (m := 32000) (by omega) (fun i hi => yAt_bd ha hi) k hk)
  obtain ⟨MX, hMX⟩ : ∃ v, (mid ps).1 = v := ⟨_, rfl⟩
  obtain ⟨MY, hMY⟩ : ∃ v, (mid ps).2.1 = v := ⟨_, rfl⟩
  obtain ⟨MD, hMD⟩ : ∃ v, (mid ps).2.2 = v := ⟨_, rfl⟩
  rw [hMX, hMY, hMD]
  have HMM := Lib.hid (And.intro hMX (And.intro hMY hMD))
  clear hp ha hA hMX hMY hMD
  go_enter Try.func33, Try.ntmps33
  go_wp2_with fail
  obtain ⟨W0, hW0⟩ : ∃ W0, W0 = w.alloc (.cells #[.int .i64 0, .int .i64 0, .int .i64 0] 29) := ⟨_, rfl⟩
  have B0 := Lib.hid (show Below w.heap.size w W0 by rw [hW0]; exact (Below.refl _ _).alloc (Nat.le_refl _) _)
  have l0 : w.heap.size < W0.heap.size := by rw [hW0]; simp
  have r0 := Lib.hid (show Row W0 w.heap.size 29 [.int .i64 0, .int .i64 0, .int .i64 0] by rw [hW0]; exact Row.new _ _ _)
  have HP := Lib.hid (HP.out.grow B0.out)
  rw [← hW0]
  clear hW0
  go_loopw [3, 4, 5] (fun s t i wr => ∃ k : Nat, k ≤ ps.length ∧ i = .int .i64 (k : Int) ∧ Hid (s = .int .i64 (psum (xAt ps) k)) ∧ Hid (t = .int .i64 (psum (yAt ps) k)) ∧ Hid (Below W0.heap.size W0 wr)) (fun _ _ i _ => ps.length - (intOf i).toNat)
  case atStart => exact ⟨0, by omega, rfl, Lib.hid rfl, Lib.hid rfl, Lib.hid (Below.refl _ _)⟩
  case round =>
    obtain ⟨k, hk, rfl, HS, HT, HB⟩ := hrel
    have hs := HS.out
    have ht := HT.out
    by_cases hlt : k < ps.length
    · have hd : decide ((k : Int) < (ps.length : Int)) = true := decide_eq_true (by omega)
      have hd' : decide (k < ps.length) = true := decide_eq_true hlt
      obtain ⟨j, hj⟩ : ∃ j, (k + 1) % ps.length = j := ⟨_, rfl⟩
      have hjl : j < ps.length := by rw [← hj]; exact Nat.mod_lt _ (by omega)
      have ej2 : ((k : Int) + 1) % (ps.length : Int) = (j : Int) := by rw [← hj, Int.natCast_emod]; rfl
      have ej1 : ((k : Int) + 1).tmod (ps.length : Int) = (j : Int) := by
        rw [Int.tmod_eq_emod_of_nonneg (by omega)]; exact ej2
      have z1 : ¬ ((ps.length : Int) = 0) := by omega
      have z2 : ¬ (ps.length = 0) := by omega
      have z3 : ¬ (ps = []) := fun h => by subst h; simp at hlt
      have i1 : (0 : Int) ≤ (k : Int) := by omega
      have i2 : (0 : Int) ≤ (j : Int) := by omega
      have i3 : (j : Int) < (ps.length : Int) := by omega
      have i4 : (k : Int) < (ps.length : Int) := by omega
      have w1 : IntKind.i64.wrap ((k : Int) + 1) = (k : Int) + 1 := i64_of _ (by omega) (by omega)
      have hb1 := ptAt_bd HA.out hlt
      have hb2 := ptAt_bd HA.out hjl
      have hxs := HXS.out k (by omega)
      have hys := HYS.out k (by omega)
      have hxw := HP.out.x k hlt
      have hyw := HP.out.y k hlt
      have hx2w := HP.out.x j hjl
      have hy2w := HP.out.y j hjl
      rw [Nat.zero_add] at hxw hyw hx2w hy2w
      have hxn : psum (xAt ps) (k + 1) = psum (xAt ps) k + crs (ptAt ps k) (ptAt ps j) * ((ptAt ps k).1 + (ptAt ps j).1) := by rw [psum_succ]; unfold xAt crsAt nx; rw [hj]
      have hyn : psum (yAt ps) (k + 1) = psum (yAt ps) k + crs (ptAt ps k) (ptAt ps j) * ((ptAt ps k).2 + (ptAt ps j).2) := by rw [psum_succ]; unfold yAt crsAt nx; rw [hj]
      rw [← ptAt_lt hlt] at hxw hyw
      rw [← ptAt_lt hjl] at hx2w hy2w
      generalize ptAt ps k = p at *
      generalize ptAt ps j = q at *
      obtain ⟨p1, p2⟩ := p
      obtain ⟨q1, q2⟩ := q
      dsimp only at hxw hyw hx2w hy2w hb1 hb2 hxn hyn
      generalize psum (xAt ps) k = S at *
      generalize psum (yAt ps) k = T at *
      subst hs
      subst ht
      have hk12 : k ≤ 12 := by omega
      have bS : Bd 1000000 S := hxs.mono (by omega)
      have bT : Bd 1000000 T := hys.mono (by omega)
      have m1 := hb1.1.mul hb2.2
      have m2 := hb1.2.mul hb2.1
      have e1 : IntKind.i64.wrap (p1 * q2) = p1 * q2 := i64_bd m1 (by omega)
      have e2 : IntKind.i64.wrap (p2 * q1) = p2 * q1 := i64_bd m2 (by omega)
      have e3 : IntKind.i64.wrap (p1 * q2 - p2 * q1) = p1 * q2 - p2 * q1 := i64_bd (m1.sub m2) (by omega)
      have m3 := hb1.1.add hb2.1
      have m4 := hb1.2.add hb2.2
      have m5 := m3.mul (m1.sub m2)
      have m6 := m4.mul (m1.sub m2)
      have e4 : IntKind.i64.wrap (p1 + q1) = p1 + q1 := i64_bd m3 (by omega)
      have e5 : IntKind.i64.wrap (p2 + q2) = p2 + q2 := i64_bd m4 (by omega)
      have e6 : IntKind.i64.wrap ((p1 + q1) * (p1 * q2 - p2 * q1)) = (p1 + q1) * (p1 * q2 - p2 * q1) := i64_bd m5 (by omega)
      have e7 : IntKind.i64.wrap ((p2 + q2) * (p1 * q2 - p2 * q1)) = (p2 + q2) * (p1 * q2 - p2 * q1) := i64_bd m6 (by omega)
      have e8 : IntKind.i64.wrap (S + (p1 + q1) * (p1 * q2 - p2 * q1)) = S + (p1 + q1) * (p1 * q2 - p2 * q1) := i64_bd (bS.add m5) (by omega)
      have e9 : IntKind.i64.wrap (T + (p2 + q2) * (p1 * q2 - p2 * q1)) = T + (p2 + q2) * (p1 * q2 - p2 * q1) := i64_bd (bT.add m6) (by omega)
      have HXN := Lib.hid (show S + (p1 + q1) * (p1 * q2 - p2 * q1) = psum (xAt ps) (k + 1) by rw [hxn]; unfold crs; dsimp only; grind)
      have HYN := Lib.hid (show T + (p2 + q2) * (p1 * q2 - p2 * q1) = psum (yAt ps) (k + 1) by rw [hyn]; unfold crs; dsimp only; grind)
      clear hb1 hb2 hxs hys hxn hyn hj m1 m2 m3 m4 m5 m6 bS bT HS HT
      have hlb : b < W0.heap.size := HP.out.lt
      have SS := Lib.hid (show ∀ W, Below W0.heap.size W0 W → W.cell? ⟨b, k * 2, none⟩ = some (.int .i64 p1) ∧ W.cell? ⟨b, k * 2 + 1, none⟩ = some (.int .i64 p2) ∧ W.cell? ⟨b, j * 2, none⟩ = some (.int .i64 q1) ∧ W.cell? ⟨b, j * 2 + 1, none⟩ = some (.int .i64 q2) from fun W h => ⟨below_at h hlb hxw, below_at h hlb hyw, below_at h hlb hx2w, below_at h hlb hy2w⟩)
      have BD := Lib.hid (show Below W0.heap.size W0 wr.drew from HB.out.drew)
      have hle := Lib.hid (show W0.heap.size ≤ wr.heap.size from HB.out.size)
      clear hxw hyw hx2w hy2w hd'
      go_wp2_with fail
      go_region_held3 (fun W => W.cell? ⟨b, k * 2, none⟩ = some (.int .i64 p1) ∧ W.cell? ⟨b, k * 2 + 1, none⟩ = some (.int .i64 p2) ∧ W.cell? ⟨b, j * 2, none⟩ = some (.int .i64 q1) ∧ W.cell? ⟨b, j * 2 + 1, none⟩ = some (.int .i64 q2))
        ((refine SS.out _ ?_; repeat (first | exact BD.out | exact HB.out | (refine Below.drew ?_) | (refine Below.al ?_ (Nat.le_refl _) _) | (refine Below.setCell ?_ (by have := hle.out; simp; omega) _))))
        (first | fail)
      · obtain ⟨V, hV, ⟨c0, c1, c2, c3⟩, hbv⟩ := two_rows (W := wr) p1 p2 q1 q2 58
        rw [← hV]
        have T2 := Lib.hid (Below.andThen HB.out hbv (Nat.le_refl _))
        clear hV hbv SS BD
        go_wp2_with fail
        refine ⟨⟨k + 1, by omega, by simp, Lib.hid (by rw [HXN.out]), Lib.hid (by rw [HYN.out]), T2⟩, ?_⟩
        simp [intOf]; omega
      · obtain ⟨V, hV, ⟨c0, c1, c2, c3⟩, hbv⟩ := two_rows (W := wr) q1 q2 p1 p2 58
        rw [← hV]
        have T2 := Lib.hid (Below.andThen HB.out hbv (Nat.le_refl _))
        clear hV hbv SS BD
        go_wp2_with fail
        refine ⟨⟨k + 1, by omega, by simp, Lib.hid (by rw [HXN.out]), Lib.hid (by rw [HYN.out]), T2⟩, ?_⟩
        simp [intOf]; omega
    · have hd : decide ((k : Int) < (ps.length : Int)) = false := decide_eq_false (by omega)
      have hd' : decide (k < ps.length) = false := decide_eq_false hlt
      obtain rfl : k = ps.length := by omega
      subst hs
      subst ht
      have eX : psum (xAt ps) ps.length = xSum ps := rfl
      have eY : psum (yAt ps) ps.length = ySum ps := rfl
      have bX := (HXS.out _ (Nat.le_refl _)).mono (C := 1000000) (by omega)
      have bY := (HYS.out _ (Nat.le_refl _)).mono (C := 1000000) (by omega)
      rw [eX] at bX ⊢
      rw [eY] at bY ⊢
      obtain ⟨hMX, hMY, hMD⟩ := HMM.out
      have bA : Bd 9600 (area ps) := (sum_upto_bd HA.out (crsAt ps) 800 (by omega) (fun x hx => crsAt_bd HA.out hx)).mono (by omega)
      have a0 := HA0.out
      have HAR := rArea_any ps b c wr (HP.out.grow HB.out) HA.out
      have em : mid ps = ((xSum ps).tdiv (gcdI (gcdI (xSum ps) (ySum ps)) (3 * area ps)), (ySum ps).tdiv (gcdI (gcdI (xSum ps) (ySum ps)) (3 * area ps)), (3 * area ps).tdiv (gcdI (gcdI (xSum ps) (ySum ps)) (3 * area ps))) := rfl
      rw [em] at hMX hMY hMD
      dsimp only at hMX hMY hMD
      clear em eX eY HS HT HXS HYS HMM
      generalize xSum ps = X at *
      generalize ySum ps = Y at *
      generalize area ps = A at *
      have g1 : IntKind.i64.wrap (3 * A) = 3 * A := i64_of _ (by unfold Bd at bA; omega) (by unfold Bd at bA; omega)
      have bG := gcdI_bd bX bY
      have HG1 := Lib.hid (fun W => rgcd2_any X Y W (bX.mono (by omega)) (bY.mono (by omega)))
      have HG2 := Lib.hid (fun W => rgcd2_any (gcdI X Y) (3 * A) W (bG.mono (by omega)) (by unfold Bd at *; omega))
      have hgp : 0 < gcdI (gcdI X Y) (3 * A) := gcdI_pos (by omega)
      have q1 := bX.tdiv (g := gcdI (gcdI X Y) (3 * A))
      have q2 := bY.tdiv (g := gcdI (gcdI X Y) (3 * A))
      have q3 : Bd 30000 ((3 * A).tdiv (gcdI (gcdI X Y) (3 * A))) := Bd.tdiv (by unfold Bd at *; omega)
      have k1 : IntKind.i64.wrap (X.tdiv (gcdI (gcdI X Y) (3 * A))) = X.tdiv (gcdI (gcdI X Y) (3 * A)) := i64_bd q1 (by omega)
      have k2 : IntKind.i64.wrap (Y.tdiv (gcdI (gcdI X Y) (3 * A))) = Y.tdiv (gcdI (gcdI X Y) (3 * A)) := i64_bd q2 (by omega)
      have k3 : IntKind.i64.wrap ((3 * A).tdiv (gcdI (gcdI X Y) (3 * A))) = (3 * A).tdiv (gcdI (gcdI X Y) (3 * A)) := i64_bd q3 (by omega)
      clear q1 q2 q3 bX bY bA bG a0
      go_wp2_with fail
      refine HAR.mono ?_
      rintro e w1 ⟨rfl, hb⟩
      have T1 := Lib.hid (Below.andThen HB.out hb (Nat.le_refl _))
      clear hb HAR HB
      go_wp2_with fail
      refine (HG1.out _).mono ?_
      rintro e w2 ⟨rfl, hn⟩
      have hb : Below w1.heap.size w1 w2 := by obtain ⟨n, rfl⟩ := hn; exact below_drewN (Below.refl _ _) _
      clear hn
      have T2 := Lib.hid (Below.andThen T1.out hb (Nat.le_refl _))
      clear hb T1
      go_wp2_with fail
      refine (HG2.out _).mono ?_
      rintro e w3 ⟨rfl, hn⟩
      have hb : Below w2.heap.size w2 w3 := by obtain ⟨n, rfl⟩ := hn; exact below_drewN (Below.refl _ _) _
      clear hn
      have T3 := Lib.hid (Below.andThen T2.out hb (Nat.le_refl _))
      generalize gcdI (gcdI X Y) (3 * A) = g at *
      rw [hMX] at k1
      rw [hMY] at k2
      rw [hMD] at k3
      have hg0 : ¬ (g = 0) := by omega
      have R3 := Lib.hid (r0.out.below (Below.andThen T3.out (Below.refl _ _) (Nat.le_refl _)) l0)
      clear hb T2 HG1 HG2
      go_wp2_with fail
      have t5 : (g == 0) = false := beq_eq_false_iff_ne.2 hg0
      refine wp_region_cut (C := fun w' => ∃ n : Kl w3, w' = n.W) 10 (by kernel_rfl) (by kernel_rfl) ⟨⟨w3.drew, (Below.refl _ _).drew⟩, rfl⟩ ?_
      simp only [List.take_succ_cons, List.take_zero, List.drop_succ_cons, List.drop_zero]
      repeat (go_big_quiet_step (fail))
      refine wpQuiet_nil ?_
      rintro _ ⟨wq, rfl⟩
      have rr := R3.out.below wq.h R3.out.lt
      have TQ := Lib.hid (Below.andThen B0.out (Below.andThen T3.out wq.h (Nat.le_refl _)) (Nat.le_refl _))
      have q0 := rr.cell 0
      have q1 := rr.cell 1
      have q2 := rr.cell 2
      have f0 := frozen_of_row _ w.heap.size 0 _ _ rr
      have f1 := frozen_of_row _ w.heap.size 1 _ _ rr
      have f2 := frozen_of_row _ w.heap.size 2 _ _ rr
      simp only [List.getElem?_cons_zero, List.getElem?_cons_succ] at q0 q1 q2
      have RR := Lib.hid rr
      generalize wq.W = w4 at *
      clear rr
      go_wp2_with fail
      have hr : Row (((w4.setCell ⟨w.heap.size, 0, none⟩ (.int .i64 MX)).setCell ⟨w.heap.size, 1, none⟩ (.int .i64 MY)).setCell ⟨w.heap.size, 2, none⟩ (.int .i64 MD)) w.heap.size 29 [.int .i64 MX, .int .i64 MY, .int .i64 MD] := by
        simpa using ((RR.out.set 0 (.int .i64 MX)).set 1 (.int .i64 MY)).set 2 (.int .i64 MD)
      have v0 := hr.cell 0
      have v1 := hr.cell 1
      have v2 := hr.cell 2
      simp only [List.getElem?_cons_zero, List.getElem?_cons_succ] at v0 v1 v2
      refine bodyPost_ret (v := .agg #[.int .i64 MX, .int .i64 MY, .int .i64 MD]) (by simp [results, Try.results33, go_sem, v0, v1, v2]) rfl ⟨rfl, ?_⟩
      exact ((TQ.out.setCell (p := ⟨w.heap.size, 0, none⟩) (Nat.le_refl _) _).setCell (p := ⟨w.heap.size, 1, none⟩) (Nat.le_refl _) _).setCell (p := ⟨w.heap.size, 2, none⟩) (Nat.le_refl _) _
end Go.Proofs.Ytlehddifcjklgaa
