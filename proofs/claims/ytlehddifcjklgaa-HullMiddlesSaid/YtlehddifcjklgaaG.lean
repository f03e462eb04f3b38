import Derived.Test.YtlehddifcjklgaaCuu
import Derived.Maps.OwnIn
import Derived.Maps.OwnSet
import Derived.Maps.AppendAt
import Derived.RangeFuncNested
import Derived.RangeFuncBound
import Derived.RangeFuncCalls
import Derived.RangeFuncLeaves
import Derived.Shelf.Abstract
import Derived.Shelf.RegionOpen
import Derived.WalkKit
import Derived.OwnWalkIn
import Derived.TacticsInMore
import Derived.LoopNIn
import Derived.LoopIn
import Derived.Sort.QuietThIn
import Derived.Sort.QuietTacIn
import Derived.Sort.BigQuietIn
import Derived.WalkSpells
import Derived.WalkLawsBesides
import Derived.BigQuiet
import Derived.Deep.QuietTactic
import Derived.Lib.Hide
import Derived.Deep.RegionHeld3
import Derived.StillTailTactics
import Derived.Deep.LoopGhost
import Derived.Lib.IndexAny
namespace Go.Proofs.Ytlehddifcjklgaa
open Go.RowKit Go.Shelf
attribute [local go_sem] Oper.semAt_some
set_option maxHeartbeats 800000 in
theorem along_any (ps : List Pt) (b c : Nat) (X Y D : Int) (s : Nat) (w : World) (hp : PtsAt w b 0 ps) (ha : areP ps = true) (hs : s < ps.length) :
    Calls Try.prog 101 #[.agg #[.slice (some ⟨b, 0, none⟩) ps.length c, .int .i64 X, .int .i64 Y, .int .i64 D], .int .i64 (s : Int)] w fun e w' => e = .returned (.agg #[.int .i64 (alongS ps s).1, .int .i64 (alongS ps s).2]) ∧ Below w.heap.size w w' := by
  obtain ⟨h3, h12⟩ := areP_len ha
  have e4 : IntKind.i64.wrap ((s : Int) + 1) = ((s + 1 : Nat) : Int) := by rw [i64_of _ (by omega) (by omega)]; omega
  have e5 : (((s + 1 : Nat) : Int)).tmod (ps.length : Int) = (((s + 1) % ps.length : Nat) : Int) := by rw [← Int.ofNat_tmod]
  have e7 : ((s : Int) + 1) % (ps.length : Int) = (((s + 1) % ps.length : Nat) : Int) := by rw [show (s : Int) + 1 = ((s + 1 : Nat) : Int) by omega]; rfl
  have e6 : ¬ ((ps.length : Int) = 0) := by omega
  have hkn : (s + 1) % ps.length < ps.length := Nat.mod_lt _ (by omega)
  have fin : alongS ps s = (ps[(s + 1) % ps.length].1 - ps[s].1, ps[(s + 1) % ps.length].2 - ps[s].2) := by
    unfold alongS nx mn; rw [ptAt_lt hkn, ptAt_lt hs]
  have Fin := Lib.hid fin
  obtain ⟨b1, b2⟩ := inR_bd ha hkn
  obtain ⟨b3, b4⟩ := inR_bd ha hs
  have k1 := Lib.hid (b1.mono (C := 100000000) (by omega))
  have k2 := Lib.hid (b2.mono (C := 100000000) (by omega))
  have k3 := Lib.hid (b3.mono (C := 100000000) (by omega))
  have k4 := Lib.hid (b4.mono (C := 100000000) (by omega))
  have hx := hp.x _ hkn
  have hy := hp.y _ hkn
  have ux := hp.x _ hs
  have uy := hp.y _ hs
  rw [Nat.zero_add] at hx hy ux uy
  rw [Fin.out]
  clear fin ha
  generalize (s + 1) % ps.length = sn at *
  generalize ps[sn] = pn at *
  generalize ps[s] = pp at *
  have hlt := hp.lt
  clear hp
  go_enter Try.func101, Try.ntmps101
  go_wp2_with fail
  obtain ⟨W0, hW0⟩ : ∃ W0, W0 = (w.alloc (.cells #[.slice (some ⟨b, 0, none⟩) ps.length c, .int .i64 X, .int .i64 Y, .int .i64 D] 81)).alloc (.cells #[.int .i64 0, .int .i64 0] 58) := ⟨_, rfl⟩
  have B0 := Lib.hid (show Below w.heap.size w W0 by rw [hW0]; exact (((Below.refl w.heap.size w).alloc (Nat.le_refl _) _).alloc (by simp) _))
  have sz := Lib.hid (show W0.heap.size = w.heap.size + 2 by rw [hW0]; simp)
  have P : Hid (∀ W, Below W0.heap.size W0 W → W.cell? ⟨w.heap.size, 0, none⟩ = some (.slice (some ⟨b, 0, none⟩) ps.length c) ∧ W.cell? ⟨w.heap.size, 1, none⟩ = some (.int .i64 X) ∧ W.cell? ⟨w.heap.size, 2, none⟩ = some (.int .i64 Y) ∧ W.cell? ⟨w.heap.size, 3, none⟩ = some (.int .i64 D) ∧ W.cell? ⟨w.heap.size + 1, 0, none⟩ = some (.int .i64 0) ∧ W.cell? ⟨w.heap.size + 1, 1, none⟩ = some (.int .i64 0)) := Lib.hid (fun W h => by
    have hsz := sz.out
    refine ⟨below_at h (by omega) ?_, below_at h (by omega) ?_, below_at h (by omega) ?_, below_at h (by omega) ?_, below_at h (by omega) ?_, below_at h (by omega) ?_⟩ <;> (rw [hW0]; simp [cell_al] <;> (intro h; omega)))
  have fz0 : W0.frozen? ⟨w.heap.size + 1, 0, none⟩ = false := by rw [hW0]; simp [frozen_al]
  have fz1 : W0.frozen? ⟨w.heap.size + 1, 1, none⟩ = false := by rw [hW0]; simp [frozen_al]
  rw [← hW0]
  clear hW0
  obtain ⟨p0, p1, p2, p3, p4, p5⟩ := P.out W0 (Below.refl _ _)
  have T0 := Lib.hid (Below.refl W0.heap.size W0)
  have f0 : W0.frozen? ⟨w.heap.size + 1, 0, none⟩ = false := fz0
  have f1 : W0.frozen? ⟨w.heap.size + 1, 1, none⟩ = false := fz1
  have ux0 := below_at B0.out hlt ux
  have uy0 := below_at B0.out hlt uy
  have hx0 := below_at B0.out hlt hx
  have hy0 := below_at B0.out hlt hy
  clear ux uy hx hy
  have x0 := Kl.cell (w := W0) (b := w.heap.size) (o := 0) (by have := sz.out; omega) p0
  have y0 := Kl.cell (w := W0) (b := b) (by have := sz.out; omega) ux0
  have y1 := Kl.cell (w := W0) (b := b) (by have := sz.out; omega) uy0
  have y2 := Kl.cell (w := W0) (b := b) (by have := sz.out; omega) hx0
  have y3 := Kl.cell (w := W0) (b := b) (by have := sz.out; omega) hy0
  refine wp_region_cut (C := fun w' => ∃ n : Kl W0, w' = n.W) 15 (by kernel_rfl) (by kernel_rfl) ⟨⟨W0.drew, (Below.refl _ _).drew⟩, rfl⟩ ?_
  simp only [List.take_succ_cons, List.take_zero, List.drop_succ_cons, List.drop_zero]
  repeat (go_big_quiet_step (fail))
  refine wpQuiet_nil ?_
  rintro _ ⟨wq, rfl⟩
  have T0' := Lib.hid wq.h
  clear T0 p0 p1 p2 p3 p4 p5 x0 y0 y1 y2 y3 ux0 uy0 hx0 hy0
  obtain ⟨p0, p1, p2, p3, p4, p5⟩ := P.out wq.W T0'.out
  have g0 := (T0'.out.frozen (p := ⟨w.heap.size + 1, 0, none⟩) (show w.heap.size + 1 < W0.heap.size by have := sz.out; omega)).trans f0
  have g1 := (T0'.out.frozen (p := ⟨w.heap.size + 1, 1, none⟩) (show w.heap.size + 1 < W0.heap.size by have := sz.out; omega)).trans f1
  go_wp2_with fail
  refine (minus_any _ _ _ _ _ k1.out k2.out k3.out k4.out).mono ?_
  rintro e w1 ⟨rfl, hb⟩
  have h0 := T0'.out.size
  have r0 := (hb.frozen (p := ⟨w.heap.size + 1, 0, none⟩) (show w.heap.size + 1 < wq.W.heap.size by have := sz.out; omega)).trans g0
  have r1 := (hb.frozen (p := ⟨w.heap.size + 1, 1, none⟩) (show w.heap.size + 1 < wq.W.heap.size by have := sz.out; omega)).trans g1
  have T1 := Lib.hid (Below.andThen T0'.out hb (Nat.le_refl _))
  clear hb p0 p1 p2 p3 p4 p5 f0 f1 g0 g1 h0
  obtain ⟨p0, p1, p2, p3, p4, p5⟩ := P.out w1 T1.out
  go_wp2_with fail
  obtain ⟨q0, q1⟩ := two_set (x := .int .i64 (pn.1 - pp.1)) (y := .int .i64 (pn.2 - pp.2)) p4 p5
  refine bodyPost_ret (v := .agg #[.int .i64 (pn.1 - pp.1), .int .i64 (pn.2 - pp.2)]) (by simp [results, Try.results101, go_sem, q0, q1]) rfl ⟨rfl, ?_⟩
  exact ((Below.andThen B0.out T1.out (Nat.le_refl _)).setCell (p := ⟨w.heap.size + 1, 0, none⟩) (by simp) _).setCell (p := ⟨w.heap.size + 1, 1, none⟩) (by simp) _
end Go.Proofs.Ytlehddifcjklgaa
