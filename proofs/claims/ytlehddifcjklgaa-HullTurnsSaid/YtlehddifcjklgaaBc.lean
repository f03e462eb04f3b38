import Derived.Test.YtlehddifcjklgaaBb
import Derived.Maps.OwnIn
import Derived.Maps.OwnSet
import Derived.Maps.AppendAt
import Derived.RangeFuncNested
import Derived.RangeFuncBound
import Derived.RangeFuncCalls
import Derived.RangeFuncLeaves
import Derived.Shelf.Abstract
import Derived.Shelf.RegionOpen
import Derived.WalkKit
import Derived.OwnWalkIn
import Derived.TacticsInMore
import Derived.LoopNIn
import Derived.LoopIn
import Derived.WalkMore
import Derived.Sort.QuietThIn
import Derived.Sort.QuietTacIn
import Derived.Sort.BigQuietIn
import Derived.WalkSpells
import Derived.WalkLawsBesides
import Derived.BigQuiet
import Derived.Deep.QuietTactic
import Derived.Lib.Hide
import Derived.Deep.RegionHeld3
import Derived.StillTailTactics
import Derived.Deep.LoopGhost
import Derived.Lib.IndexAny
namespace Go.Proofs.Ytlehddifcjklgaa
open Go.RowKit Go.Shelf
attribute [local go_sem] Oper.semAt_some
def momS (qs : List Pt) (j : Nat) : Int := ((qs.take j).map momP).sum
def lenS (qs : List Pt) (j : Nat) : Int := ((qs.take j).map Prod.snd).sum
theorem momS_succ {qs : List Pt} {j : Nat} (h : j < qs.length) : momS qs (j + 1) = momS qs j + momP qs[j] := by
  unfold momS; rw [List.take_succ_eq_append_getElem h, List.map_append, List.sum_append]; simp [momP]
theorem lenS_succ {qs : List Pt} {j : Nat} (h : j < qs.length) : lenS qs (j + 1) = lenS qs j + qs[j].2 := by
  unfold lenS; rw [List.take_succ_eq_append_getElem h, List.map_append, List.sum_append]; simp
theorem momP_bd {q : Pt} (h : Bd 1000 q.1 ∧ 1 ≤ q.2 ∧ q.2 ≤ 100) : Bd 300000 (momP q) := by
  have h2 : Bd 100 q.2 := by unfold Bd; omega
  exact (h2.mul (h.1.add (h.1.add h2))).mono (by omega)
theorem momS_bd {qs : List Pt} (hbd : ∀ i (h : i < qs.length), Bd 1000 qs[i].1 ∧ 1 ≤ qs[i].2 ∧ qs[i].2 ≤ 100) : ∀ j, j ≤ qs.length → Bd (300000 * j) (momS qs j) ∧ (j : Int) ≤ lenS qs j ∧ lenS qs j ≤ 100 * j
  | 0, _ => by simp [momS, lenS, Bd]
  | j + 1, h => by
    obtain ⟨h1, h2, h3⟩ := momS_bd hbd j (by omega)
    have hb := hbd j (by omega)
    have := momP_bd hb
    rw [momS_succ (by omega), lenS_succ (by omega)]
    unfold Bd at *; omega
set_option maxHeartbeats 1000000 in
theorem rBalance_any (ps : List Pt) (b c pl : Nat) (w : World) (hp : PtsAt w b 0 ps) (hpl : pl < ps.length) (h12 : ps.length ≤ 12) (hbd : ∀ i (h : i < ps.length), Bd 1000 ps[i].1 ∧ 1 ≤ ps[i].2 ∧ ps[i].2 ≤ 100) :
    Calls Try.prog 53 #[.slice (some ⟨b, 0, none⟩) ps.length c, .int .i64 (pl : Int)] w fun e w' => e = .returned (.agg #[.int .i64 (balF (ps.drop pl)).1, .int .i64 (balF (ps.drop pl)).2]) ∧ Below w.heap.size w w' := by
  have hbd' : ∀ i (h : i < (ps.drop pl).length), Bd 1000 (ps.drop pl)[i].1 ∧ 1 ≤ (ps.drop pl)[i].2 ∧ (ps.drop pl)[i].2 ≤ 100 := fun i h => by
    rw [List.getElem_drop]; exact hbd _ _
  have hql : (ps.drop pl).length = ps.length - pl := List.length_drop ..
  have HP := Lib.hid hp
  have HQ := Lib.hid (show ∀ j (h1 : j < (ps.drop pl).length) (h : pl + j < ps.length), (ps.drop pl)[j] = ps[pl + j] from fun j _ h => List.getElem_drop ..)
  have HBD := Lib.hid hbd'
  have HQL := Lib.hid hql
  obtain ⟨E1, E2, hE⟩ : ∃ E1 E2, balF (ps.drop pl) = (E1, E2) := ⟨_, _, rfl⟩
  rw [hE]
  have HE := Lib.hid hE
  dsimp only
  generalize ps.drop pl = qs at *
  clear hp hbd hbd' hql hE
  go_enter Try.func53, Try.ntmps53
  go_wp2_with fail
  obtain ⟨W0, hW0⟩ : ∃ W0, W0 = w.alloc (.cells #[.int .i64 0, .int .i64 0] 58) := ⟨_, rfl⟩
  have B0 := Lib.hid (show Below w.heap.size w W0 by rw [hW0]; exact (Below.refl _ _).alloc (Nat.le_refl _) _)
  have r0 := Lib.hid (show Row W0 w.heap.size 58 [.int .i64 0, .int .i64 0] by rw [hW0]; exact Row.new _ _ _)
  have HP0 := Lib.hid (HP.out.grow B0.out)
  rw [← hW0]
  clear hW0
  go_loopw [5, 6, 7] (fun x y i wr => ∃ k j : Nat, k = pl + j ∧ k ≤ ps.length ∧ i = .int .i64 (k : Int) ∧ Hid (x = .int .i64 (momS qs j) ∧ y = .int .i64 (2 * lenS qs j)) ∧ Hid (∃ n, wr = W0.drewN n)) (fun _ _ i _ => ps.length - (intOf i).toNat)
  case atStart => exact ⟨pl, 0, by omega, by omega, rfl, Lib.hid ⟨by simp [momS], by simp [lenS]⟩, Lib.hid ⟨0, rfl⟩⟩
  case round =>
    obtain ⟨k, j, hkj, hk, rfl, HX, HN⟩ := hrel
    by_cases hlt : k < ps.length
    · have hd : decide ((k : Int) < (ps.length : Int)) = true := decide_eq_true (by omega)
      obtain ⟨n, hn⟩ := HN.out
      have hj : j < qs.length := by have := HQL.out; omega
      have hx : wr.cell? ⟨b, 0 + k * 2, none⟩ = some (.int .i64 ps[k].1) := by rw [hn]; exact HP0.out.x k hlt
      have hy : wr.cell? ⟨b, 0 + k * 2 + 1, none⟩ = some (.int .i64 ps[k].2) := by rw [hn]; exact HP0.out.y k hlt
      rw [Nat.zero_add] at hx hy
      have hq : qs[j] = ps[k] := by subst hkj; exact HQ.out j hj hlt
      have hb := HBD.out j hj
      have hs := momS_succ hj
      have hs2 := lenS_succ hj
      obtain ⟨m1, m2, m3⟩ := momS_bd HBD.out j (by omega)
      obtain ⟨hxv, hyv⟩ := HX.out
      rw [hq] at hs hs2
      have hb : Bd 1000 ps[k].1 ∧ 1 ≤ ps[k].2 ∧ ps[k].2 ≤ 100 := hq ▸ hb
      generalize ps[k] = q at *
      obtain ⟨q1, q2⟩ := q
      generalize momS qs j = mx at *
      generalize lenS qs j = my at *
      unfold momP at hs
      dsimp only at hx hy hb hs hs2
      subst hxv
      subst hyv
      have hj12 : j ≤ 12 := by have := HQL.out; omega
      have hmm := momP_bd (q := (q1, q2)) hb
      unfold momP at hmm
      dsimp only at hmm
      rw [show q1 + (q1 + q2) = 2 * q1 + q2 by omega] at hmm hs
      have e1 : IntKind.i64.wrap (2 * q1) = 2 * q1 := i64_of _ (by unfold Bd at hb; omega) (by unfold Bd at hb; omega)
      have e2 : IntKind.i64.wrap (2 * q1 + q2) = 2 * q1 + q2 := i64_of _ (by unfold Bd at hb; omega) (by unfold Bd at hb; omega)
      have e3 : IntKind.i64.wrap (q2 * (2 * q1 + q2)) = q2 * (2 * q1 + q2) := i64_bd hmm (by omega)
      have e4 : IntKind.i64.wrap (mx + q2 * (2 * q1 + q2)) = mx + q2 * (2 * q1 + q2) := i64_of _ (by unfold Bd at m1 hmm; omega) (by unfold Bd at m1 hmm; omega)
      have e5 : IntKind.i64.wrap (2 * q2) = 2 * q2 := i64_of _ (by omega) (by omega)
      have e6 : IntKind.i64.wrap (2 * my + 2 * q2) = 2 * my + 2 * q2 := i64_of _ (by omega) (by omega)
      have HS := Lib.hid (And.intro hs hs2)
      have NN := Lib.hid hn
      have HK := Lib.hid hkj
      clear hs hs2 hb hmm m1 m2 m3 hn HX HN hkj hq hj12
      go_wp2_with fail
      go_quiet (fail)
      go_wp2_with fail
      refine ⟨⟨k + 1, j + 1, by have := HK.out; omega, by omega, by simp, Lib.hid ⟨by rw [HS.out.1], by rw [HS.out.2]; congr 1; omega⟩, Lib.hid ⟨_, by rw [NN.out, drewN_drewN]⟩⟩, ?_⟩
      simp [intOf]; omega
    · have hd : decide ((k : Int) < (ps.length : Int)) = false := decide_eq_false (by omega)
      obtain rfl : k = ps.length := by omega
      obtain ⟨hxv, hyv⟩ := HX.out
      obtain ⟨n, hn⟩ := HN.out
      have hjq : j = qs.length := by have := HQL.out; omega
      obtain ⟨m1, m2, m3⟩ := momS_bd HBD.out j (by omega)
      have hfr : balF qs = frac (momS qs j) (2 * lenS qs j) := by subst hjq; unfold balF momS lenS; rw [List.take_length]
      have hq12 : j ≤ 12 ∧ 1 ≤ j := by have := HQL.out; omega
      generalize momS qs j = mx at *
      generalize lenS qs j = my at *
      subst hxv
      subst hyv
      have HG := Lib.hid (fun W => rgcd2_any mx (2 * my) W (m1.mono (by omega)) (by unfold Bd; omega))
      have hg := gcdI_pos (n := mx) (d := 2 * my) (by omega)
      rw [HE.out] at hfr
      unfold frac at hfr
      generalize gcdI mx (2 * my) = G at *
      simp only [Prod.mk.injEq] at hfr
      obtain ⟨f1, f2⟩ := hfr
      have t1 : Bd 4000000 (mx.tdiv G) := (m1.mono (by omega)).tdiv
      have t2 : Bd 4000000 ((2 * my).tdiv G) := Bd.tdiv (by unfold Bd; omega)
      rw [← f1] at t1
      rw [← f2] at t2
      have z1 : ¬ G = 0 := by omega
      have w1 : IntKind.i64.wrap E1 = E1 := i64_bd t1 (by omega)
      have w2 : IntKind.i64.wrap E2 = E2 := i64_bd t2 (by omega)
      have w1' : wrap64 E1 = E1 := (IntWalk.i64_left _).symm.trans w1
      have w2' : wrap64 E2 = E2 := (IntWalk.i64_left _).symm.trans w2
      have f1' := f1.symm
      have f2' := f2.symm
      have NN := Lib.hid hn
      clear f1 f2 hn HX HN m1 m2 m3 t1 t2 hkj
      go_wp2_with fail
      refine (HG.out _).mono ?_
      rintro e w3 ⟨rfl, m, rfl⟩
      have T1 := Lib.hid (show Below W0.heap.size W0 (wr.drewN m) by rw [NN.out, drewN_drewN]; exact below_drewN (Below.refl _ _) _)
      generalize wr.drewN m = V at *
      go_wp2_with fail
      refine wp_region_cut (C := fun w' => ∃ n : Kl V, w' = n.W) 6 (by kernel_rfl) (by kernel_rfl) ⟨⟨V.drew, (Below.refl _ _).drew⟩, rfl⟩ ?_
      simp only [List.take_succ_cons, List.take_zero, List.drop_succ_cons, List.drop_zero]
      repeat (go_big_quiet_step (fail))
      refine wpQuiet_nil ?_
      rintro _ ⟨wq, rfl⟩
      have T2 := Lib.hid (Below.andThen T1.out wq.h (Nat.le_refl _))
      have r2 := r0.out.below T2.out r0.out.lt
      obtain ⟨z0, z1, z2, z3⟩ := two_cells r2
      generalize wq.W = w5 at *
      go_wp2_with fail
      obtain ⟨q0, q1⟩ := two_set (x := .int .i64 E1) (y := .int .i64 E2) z0 z1
      refine bodyPost_ret (v := .agg #[.int .i64 E1, .int .i64 E2]) (by simp [results, Try.results53, go_sem, q0, q1]) rfl ⟨rfl, ?_⟩
      exact ((Below.andThen B0.out T2.out (Nat.le_refl _)).setCell (p := ⟨w.heap.size, 0, none⟩) (by simp) _).setCell (p := ⟨w.heap.size, 1, none⟩) (by simp) _
end Go.Proofs.Ytlehddifcjklgaa
