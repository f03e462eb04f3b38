import Derived.Test.YtlehddifcjklgaaCr
import Derived.Test.YtlehddifcjklgaaCv
import Derived.Maps.OwnIn
import Derived.Maps.OwnSet
import Derived.Maps.AppendAt
import Derived.RangeFuncNested
import Derived.RangeFuncBound
import Derived.RangeFuncCalls
import Derived.RangeFuncLeaves
import Derived.Shelf.Abstract
import Derived.Shelf.RegionOpen
import Derived.WalkKit
import Derived.OwnWalkIn
import Derived.TacticsInMore
import Derived.LoopNIn
import Derived.LoopIn
import Derived.WalkMore
import Derived.Sort.QuietThIn
import Derived.Sort.QuietTacIn
import Derived.Sort.BigQuietIn
import Derived.WalkSpells
import Derived.WalkLawsBesides
import Derived.BigQuiet
import Derived.Deep.QuietTactic
import Derived.Lib.Hide
import Derived.Deep.RegionHeld3
import Derived.StillTailTactics
import Derived.Deep.LoopGhost
import Derived.Lib.IndexAny
namespace Go.Proofs.Ytlehddifcjklgaa
open Go.RowKit Go.Shelf
attribute [local go_sem] Oper.semAt_some
set_option maxRecDepth 100000 in
set_option maxHeartbeats 2000000 in
theorem rLean_any (ps : List Pt) (b c s : Nat) (w : World) (hp : PtsAt w b 0 ps) (hck : chk ps = true) (hs : s < ps.length) :
    Calls Try.prog 38 #[.slice (some ⟨b, 0, none⟩) ps.length c, .int .i64 (s : Int)] w fun e w' => e = .returned (.agg #[.int .i64 (leanF ps (mid ps) s).1, .int .i64 (leanF ps (mid ps) s).2]) ∧ Below w.heap.size w w' := by
  have ha := chk_areP hck
  have hA := chk_area hck
  obtain ⟨h3, h12⟩ := areP_len ha
  obtain ⟨m1, m2, m3, m4⟩ := mid_facts ha hA
  have hRM := fun W (h : PtsAt W b 0 ps) => rMiddle_any ps b c W h ha hA
  have HE := Lib.hid (fun W (h : PtsAt W b 0 ps) => rEnds_any ps b c s W h h12 hs)
  have HP := Lib.hid hp
  have b1 := ptAt_bd ha hs
  have b2 := nx_bd ha hs
  have hS := along_pos hck hs
  have hle : leanF ps (mid ps) s = rleanF ps (mid ps) s := lean_eq m4 hS
  rw [hle]
  have hH : heightH ps (mid ps) s = ((nx ps s).1 - (ptAt ps s).1) * ((mid ps).2.1 - (ptAt ps s).2 * (mid ps).2.2) - ((nx ps s).2 - (ptAt ps s).2) * ((mid ps).1 - (ptAt ps s).1 * (mid ps).2.2) := by
    unfold heightH crs inw alongS mn; dsimp only; grind
  have hSS : dt (alongS ps s) (alongS ps s) = ((nx ps s).1 - (ptAt ps s).1) * ((nx ps s).1 - (ptAt ps s).1) + ((nx ps s).2 - (ptAt ps s).2) * ((nx ps s).2 - (ptAt ps s).2) := rfl
  have hrl : rleanF ps (mid ps) s = ((frac ((frac (heightH ps (mid ps) s) (mid ps).2.2).1 * (frac (heightH ps (mid ps) s) (mid ps).2.2).1) (dt (alongS ps s) (alongS ps s))).1, (frac ((frac (heightH ps (mid ps) s) (mid ps).2.2).1 * (frac (heightH ps (mid ps) s) (mid ps).2.2).1) (dt (alongS ps s) (alongS ps s))).2 * (frac (heightH ps (mid ps) s) (mid ps).2.2).2 * (frac (heightH ps (mid ps) s) (mid ps).2.2).2) := rfl
  rw [hrl]
  rw [hSS] at hS ⊢
  rw [hH]
  dsimp only
  generalize ptAt ps s = p at *
  generalize nx ps s = q at *
  obtain ⟨p1, p2⟩ := p
  obtain ⟨q1, q2⟩ := q
  obtain ⟨X, Y, D, hm⟩ : ∃ X Y D, mid ps = (X, Y, D) := ⟨_, _, _, rfl⟩
  rw [hm] at m1 m2 m3 m4 hRM ⊢
  dsimp only at *
  have k1 := b1.2.mul m3
  have k2 := b1.1.mul m3
  have k3 := m2.sub k1
  have k4 := m1.sub k2
  have k5 := b2.1.sub b1.1
  have k6 := b2.2.sub b1.2
  have k7 := k5.mul k3
  have k8 := k6.mul k4
  have kT := (k7.sub k8).mono (C := 100000000) (by omega)
  have k9 := k5.mul k5
  have k10 := k6.mul k6
  have kS := (k9.add k10).mono (C := 3200) (by omega)
  have e1 : IntKind.i64.wrap (p2 * D) = p2 * D := i64_bd k1 (by omega)
  have e2 : IntKind.i64.wrap (p1 * D) = p1 * D := i64_bd k2 (by omega)
  have e3 : IntKind.i64.wrap (Y - p2 * D) = Y - p2 * D := i64_bd k3 (by omega)
  have e4 : IntKind.i64.wrap (X - p1 * D) = X - p1 * D := i64_bd k4 (by omega)
  have e5 : IntKind.i64.wrap (q1 - p1) = q1 - p1 := i64_bd k5 (by omega)
  have e6 : IntKind.i64.wrap (q2 - p2) = q2 - p2 := i64_bd k6 (by omega)
  have e7 : IntKind.i64.wrap ((q1 - p1) * (Y - p2 * D)) = (q1 - p1) * (Y - p2 * D) := i64_bd k7 (by omega)
  have e8 : IntKind.i64.wrap ((q2 - p2) * (X - p1 * D)) = (q2 - p2) * (X - p1 * D) := i64_bd k8 (by omega)
  have e9 : IntKind.i64.wrap ((q1 - p1) * (Y - p2 * D) - (q2 - p2) * (X - p1 * D)) = (q1 - p1) * (Y - p2 * D) - (q2 - p2) * (X - p1 * D) := i64_bd kT (by omega)
  have e10 : IntKind.i64.wrap ((q1 - p1) * (q1 - p1)) = (q1 - p1) * (q1 - p1) := i64_bd k9 (by omega)
  have e11 : IntKind.i64.wrap ((q2 - p2) * (q2 - p2)) = (q2 - p2) * (q2 - p2) := i64_bd k10 (by omega)
  have e12 : IntKind.i64.wrap ((q1 - p1) * (q1 - p1) + (q2 - p2) * (q2 - p2)) = (q1 - p1) * (q1 - p1) + (q2 - p2) * (q2 - p2) := i64_bd kS (by omega)
  obtain ⟨t, ht⟩ : ∃ t, (q1 - p1) * (Y - p2 * D) - (q2 - p2) * (X - p1 * D) = t := ⟨_, rfl⟩
  obtain ⟨S, hSe⟩ : ∃ S, (q1 - p1) * (q1 - p1) + (q2 - p2) * (q2 - p2) = S := ⟨_, rfl⟩
  rw [ht] at kT ⊢
  rw [hSe] at kS hS ⊢
  have e9' : IntKind.i64.wrap ((q1 - p1) * (Y - p2 * D) - (q2 - p2) * (X - p1 * D)) = t := e9.trans ht
  have e9'' : wrap64 ((q1 - p1) * (Y - p2 * D) - (q2 - p2) * (X - p1 * D)) = t := by rw [ht]; exact w64_of (by unfold Bd at kT; omega) (by unfold Bd at kT; omega)
  have e12' : IntKind.i64.wrap ((q1 - p1) * (q1 - p1) + (q2 - p2) * (q2 - p2)) = S := e12.trans hSe
  have e12'' : wrap64 ((q1 - p1) * (q1 - p1) + (q2 - p2) * (q2 - p2)) = S := by rw [hSe]; exact w64_of (by unfold Bd at kS; omega) (by unfold Bd at kS; omega)
  clear e9 e12
  have hg : 0 < gcdI t D := gcdI_pos m4
  have HG1 := Lib.hid (fun W => rgcd2_any t D W (kT.mono (by omega)) (m3.mono (by omega)))
  have f1 := frac_bd kT m3 (n := t) (d := D)
  have hfr : frac t D = (t.tdiv (gcdI t D), D.tdiv (gcdI t D)) := rfl
  have fd : 0 < (frac t D).2 := (frac_spec m4).elim fun _ h => h.2.2.2.1
  rw [hfr] at f1 fd ⊢
  dsimp only at f1 fd ⊢
  generalize gcdI t D = g at *
  obtain ⟨u, hu⟩ : ∃ u, t.tdiv g = u := ⟨_, rfl⟩
  obtain ⟨v, hv⟩ : ∃ v, D.tdiv g = v := ⟨_, rfl⟩
  rw [hu, hv] at f1 ⊢
  rw [hv] at fd
  have kU := f1.1.mul f1.1
  have HG2 := Lib.hid (fun W => rgcd2_any (u * u) S W (kU.mono (by omega)) (kS.mono (by omega)))
  have hh : 0 < gcdI (u * u) S := gcdI_pos hS
  have f2 := frac_bd kU kS (n := u * u) (d := S)
  have hfr2 : frac (u * u) S = ((u * u).tdiv (gcdI (u * u) S), S.tdiv (gcdI (u * u) S)) := rfl
  rw [hfr2] at f2 ⊢
  dsimp only at f2 ⊢
  generalize gcdI (u * u) S = h at *
  have e13 : IntKind.i64.wrap (t.tdiv g) = u := by rw [hu]; exact i64_bd f1.1 (by omega)
  have e14 : IntKind.i64.wrap (D.tdiv g) = v := by rw [hv]; exact i64_bd f1.2 (by omega)
  have e15 : IntKind.i64.wrap (u * u) = u * u := i64_bd kU (by omega)
  obtain ⟨r, hr⟩ : ∃ r, (u * u).tdiv h = r := ⟨_, rfl⟩
  obtain ⟨o, ho⟩ : ∃ o, S.tdiv h = o := ⟨_, rfl⟩
  rw [hr, ho] at f2 ⊢
  have e16 : IntKind.i64.wrap ((u * u).tdiv h) = r := by rw [hr]; exact i64_bd f2.1 (by omega)
  have e17 : IntKind.i64.wrap (S.tdiv h) = o := by rw [ho]; exact i64_bd f2.2 (by omega)
  have k11 := f2.2.mul f1.2
  have k12 := k11.mul f1.2
  have e18 : IntKind.i64.wrap (o * v) = o * v := i64_bd k11 (by omega)
  have e19 : IntKind.i64.wrap (o * v * v) = o * v * v := i64_bd k12 (by omega)
  have e20 : IntKind.i64.wrap r = r := i64_bd f2.1 (by omega)
  have e21 : IntKind.i64.wrap o = o := i64_bd f2.2 (by omega)
  have e22 : IntKind.i64.wrap v = v := i64_bd f1.2 (by omega)
  have z1 : (g == 0) = false := beq_eq_false_iff_ne.2 (by omega)
  have z2 : (h == 0) = false := beq_eq_false_iff_ne.2 (by omega)
  have z3 : ¬ (g = 0) := by omega
  have z4 : ¬ (h = 0) := by omega
  clear k1 k2 k3 k4 k5 k6 k7 k8 k9 k10 k11 k12 kT kS kU f1 f2 fd hfr hfr2 hm hH hSS hrl hle ha hA m1 m2 m3 m4 b1 b2 hS hg hh hck hp ht hSe hu hv hr ho h3 h12
  go_enter Try.func38, Try.ntmps38
  go_wp2_with fail
  obtain ⟨W0, hW0⟩ : ∃ W0, W0 = w.alloc (.cells #[.int .i64 0, .int .i64 0] 39) := ⟨_, rfl⟩
  have B0 := Lib.hid (show Below w.heap.size w W0 by rw [hW0]; exact (Below.refl _ _).alloc (Nat.le_refl _) _)
  have l0 : w.heap.size < W0.heap.size := by rw [hW0]; simp
  have r0 := Lib.hid (show Row W0 w.heap.size 39 [.int .i64 0, .int .i64 0] by rw [hW0]; exact Row.new _ _ _)
  have HP0 := Lib.hid (HP.out.grow B0.out)
  rw [← hW0]
  clear hW0
  refine (hRM W0 HP0.out).mono ?_
  rintro e w1 ⟨rfl, hb⟩
  obtain ⟨V, hV⟩ : ∃ V, V = w1.alloc (.cells #[.int .i64 X, .int .i64 Y, .int .i64 D] 29) := ⟨_, rfl⟩
  have T1 := Lib.hid (show Below W0.heap.size W0 V by rw [hV]; exact Below.al hb (Nat.le_refl _) _)
  have rV := Lib.hid (show Row V w1.heap.size 29 [.int .i64 X, .int .i64 Y, .int .i64 D] by rw [hV]; exact Row.new _ _ _)
  clear hb hRM
  go_wp2_with fail
  rw [← hV]
  clear hV
  refine (HE.out V (HP0.out.grow T1.out)).mono ?_
  rintro e w2 ⟨rfl, hb⟩
  obtain ⟨V2, hV2, ⟨r1, r2⟩, hb2⟩ := two_pts (W := w2) p1 p2 q1 q2
  have HB2 := Lib.hid (Below.andThen hb hb2 (Nat.le_refl _))
  have T2 := Lib.hid (Below.andThen T1.out HB2.out (Nat.le_refl _))
  have rV2 := Lib.hid (rV.out.below HB2.out rV.out.lt)
  have R1 := Lib.hid r1
  have R2 := Lib.hid r2
  clear hb hb2 r1 r2 T1 rV
  have c0 := R1.out.cell 0
  have c1 := R1.out.cell 1
  have c2 := R2.out.cell 0
  have c3 := R2.out.cell 1
  have c4 := rV2.out.cell 0
  have c5 := rV2.out.cell 1
  have c6 := rV2.out.cell 2
  simp only [List.getElem?_cons_zero, List.getElem?_cons_succ] at c0 c1 c2 c3 c4 c5 c6
  rw [hV2] at c0 c1 c2 c3 c4 c5 c6
  go_wp2_with fail
  rw [← hV2]
  clear hV2 c0 c1 c2 c3 c4 c5 c6
  refine (HG1.out V2).mono ?_
  rintro e w3 ⟨rfl, hn⟩
  have hb : Below V2.heap.size V2 w3 := by obtain ⟨n, rfl⟩ := hn; exact below_drewN (Below.refl _ _) _
  have T3 := Lib.hid (Below.andThen T2.out hb (Nat.le_refl _))
  have rV3 := Lib.hid (rV2.out.below hb rV2.out.lt)
  clear hn hb T2 rV2 HG1 R1 R2
  have c4 := rV3.out.cell 0
  have c5 := rV3.out.cell 1
  have c6 := rV3.out.cell 2
  simp only [List.getElem?_cons_zero, List.getElem?_cons_succ] at c4 c5 c6
  go_wp2_with fail
  refine (HG2.out w3).mono ?_
  rintro e w4 ⟨rfl, hn⟩
  have hb : Below w3.heap.size w3 w4 := by obtain ⟨n, rfl⟩ := hn; exact below_drewN (Below.refl _ _) _
  have T4 := Lib.hid (Below.andThen T3.out hb (Nat.le_refl _))
  have rR := Lib.hid (r0.out.below T4.out l0)
  clear hn hb T3 HG2 c4 c5 c6 rV3
  go_wp2_with fail
  refine wp_region_cut (C := fun w' => ∃ n : Kl w4, w' = n.W) 13 (by kernel_rfl) (by kernel_rfl) ⟨⟨w4.drew, (Below.refl _ _).drew⟩, rfl⟩ ?_
  simp only [List.take_succ_cons, List.take_zero, List.drop_succ_cons, List.drop_zero]
  repeat (go_big_quiet_step (fail))
  refine wpQuiet_nil ?_
  rintro _ ⟨wq, rfl⟩
  have rr := rR.out.below wq.h rR.out.lt
  have TQ := Lib.hid (Below.andThen B0.out (Below.andThen T4.out wq.h (Nat.le_refl _)) (Nat.le_refl _))
  have q0 := rr.cell 0
  have q1' := rr.cell 1
  have f0 := frozen_of_row _ w.heap.size 0 _ _ rr
  have f1 := frozen_of_row _ w.heap.size 1 _ _ rr
  simp only [List.getElem?_cons_zero, List.getElem?_cons_succ] at q0 q1'
  have RR := Lib.hid rr
  generalize wq.W = w5 at *
  clear rr
  go_wp2_with fail
  have hr : Row ((w5.setCell ⟨w.heap.size, 0, none⟩ (.int .i64 r)).setCell ⟨w.heap.size, 1, none⟩ (.int .i64 (o * v * v))) w.heap.size 39 [.int .i64 r, .int .i64 (o * v * v)] := by
    simpa using (RR.out.set 0 (.int .i64 r)).set 1 (.int .i64 (o * v * v))
  have v0 := hr.cell 0
  have v1 := hr.cell 1
  simp only [List.getElem?_cons_zero, List.getElem?_cons_succ] at v0 v1
  refine bodyPost_ret (v := .agg #[.int .i64 r, .int .i64 (o * v * v)]) (by simp [results, Try.results38, go_sem, v0, v1]) rfl ⟨rfl, ?_⟩
  exact (TQ.out.setCell (p := ⟨w.heap.size, 0, none⟩) (Nat.le_refl _) _).setCell (p := ⟨w.heap.size, 1, none⟩) (Nat.le_refl _) _
end Go.Proofs.Ytlehddifcjklgaa
