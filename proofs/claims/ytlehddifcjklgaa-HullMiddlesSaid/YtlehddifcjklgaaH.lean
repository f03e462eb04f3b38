import Derived.Test.YtlehddifcjklgaaG
import Derived.Maps.OwnIn
import Derived.Maps.OwnSet
import Derived.Maps.AppendAt
import Derived.RangeFuncNested
import Derived.RangeFuncBound
import Derived.RangeFuncCalls
import Derived.RangeFuncLeaves
import Derived.Shelf.Abstract
import Derived.Shelf.RegionOpen
import Derived.WalkKit
import Derived.OwnWalkIn
import Derived.TacticsInMore
import Derived.LoopNIn
import Derived.LoopIn
import Derived.Sort.QuietThIn
import Derived.Sort.QuietTacIn
import Derived.Sort.BigQuietIn
import Derived.WalkSpells
import Derived.WalkLawsBesides
import Derived.BigQuiet
import Derived.Deep.QuietTactic
import Derived.Lib.Hide
import Derived.Deep.RegionHeld3
import Derived.StillTailTactics
import Derived.Deep.LoopGhost
import Derived.Lib.IndexAny
namespace Go.Proofs.Ytlehddifcjklgaa
open Go.RowKit Go.Shelf
attribute [local go_sem] Oper.semAt_some
set_option maxHeartbeats 800000 in
theorem inwards_any (X Y D cx cy : Int) (sl : Value) (w : World) (hX : Bd 400000 X) (hY : Bd 400000 Y) (hD : Bd 30000 D) (hx : Bd 20 cx) (hy : Bd 20 cy) (hs : ∃ v l k, sl = .slice v l k) :
    Calls Try.prog 71 #[.agg #[sl, .int .i64 X, .int .i64 Y, .int .i64 D], .agg #[.int .i64 cx, .int .i64 cy]] w fun e w' => e = .returned (.agg #[.int .i64 (inw (X, Y, D) (cx, cy)).1, .int .i64 (inw (X, Y, D) (cx, cy)).2]) ∧ Below w.heap.size w w' := by
  obtain ⟨v, l, k, rfl⟩ := hs
  have m1 := hD.mul hx
  have m2 := hD.mul hy
  have e1 := i64_bd m1 (by omega)
  have e2 := i64_bd m2 (by omega)
  have e3 := i64_bd (hX.sub m1) (by omega)
  have e4 := i64_bd (hY.sub m2) (by omega)
  clear m1 m2 hX hY hD hx hy
  go_enter Try.func71, Try.ntmps71
  go_wp2_with fail
  obtain ⟨W0, hW0⟩ : ∃ W0, W0 = ((w.alloc (.cells #[.slice v l k, .int .i64 X, .int .i64 Y, .int .i64 D] 81)).alloc (.cells #[.int .i64 cx, .int .i64 cy] 58)).alloc (.cells #[.int .i64 0, .int .i64 0] 58) := ⟨_, rfl⟩
  have B0 := Lib.hid (show Below w.heap.size w W0 by rw [hW0]; exact ((((Below.refl w.heap.size w).alloc (Nat.le_refl _) _).alloc (by simp) _).alloc (by simp; omega) _))
  have sz := Lib.hid (show W0.heap.size = w.heap.size + 3 by rw [hW0]; simp)
  have P : Hid (∀ W, Below W0.heap.size W0 W → W.cell? ⟨w.heap.size, 0, none⟩ = some (.slice v l k) ∧ W.cell? ⟨w.heap.size, 1, none⟩ = some (.int .i64 X) ∧ W.cell? ⟨w.heap.size, 2, none⟩ = some (.int .i64 Y) ∧ W.cell? ⟨w.heap.size, 3, none⟩ = some (.int .i64 D) ∧ W.cell? ⟨w.heap.size + 1, 0, none⟩ = some (.int .i64 cx) ∧ W.cell? ⟨w.heap.size + 1, 1, none⟩ = some (.int .i64 cy) ∧ W.cell? ⟨w.heap.size + 2, 0, none⟩ = some (.int .i64 0) ∧ W.cell? ⟨w.heap.size + 2, 1, none⟩ = some (.int .i64 0)) := Lib.hid (fun W h => by
    have hsz := sz.out
    refine ⟨below_at h (by omega) ?_, below_at h (by omega) ?_, below_at h (by omega) ?_, below_at h (by omega) ?_, below_at h (by omega) ?_, below_at h (by omega) ?_, below_at h (by omega) ?_, below_at h (by omega) ?_⟩ <;> (rw [hW0]; simp [cell_al] <;> (intro h; omega)))
  have fz20 : W0.frozen? ⟨w.heap.size + 2, 0, none⟩ = false := by rw [hW0]; simp [frozen_al]
  have fz21 : W0.frozen? ⟨w.heap.size + 2, 1, none⟩ = false := by rw [hW0]; simp [frozen_al]
  rw [← hW0]
  clear hW0
  obtain ⟨p0, p1, p2, p3, p4, p5, p6, p7⟩ := P.out W0 (Below.refl _ _)
  have T0 := Lib.hid (Below.refl W0.heap.size W0)

  go_region
  go_wp2_with fail
  obtain ⟨q0, q1⟩ := two_set (x := .int .i64 (X - D * cx)) (y := .int .i64 (Y - D * cy)) p6 p7
  refine bodyPost_ret (v := .agg #[.int .i64 (X - D * cx), .int .i64 (Y - D * cy)]) (by simp [results, Try.results71, go_sem, q0, q1]) rfl ⟨rfl, ?_⟩
  exact ((B0.out.setCell (p := ⟨w.heap.size + 2, 0, none⟩) (by simp) _).setCell (p := ⟨w.heap.size + 2, 1, none⟩) (by simp) _).drew
theorem inw_bd {X Y D cx cy : Int} (hX : Bd 400000 X) (hY : Bd 400000 Y) (hD : Bd 30000 D) (hx : Bd 20 cx) (hy : Bd 20 cy) : Bd 1000000 (inw (X, Y, D) (cx, cy)).1 ∧ Bd 1000000 (inw (X, Y, D) (cx, cy)).2 :=
  ⟨(hX.sub (hD.mul hx)).mono (by omega), (hY.sub (hD.mul hy)).mono (by omega)⟩
theorem alongS_bd {ps : List Pt} (ha : areP ps = true) {s : Nat} (hs : s < ps.length) : Bd 40 (alongS ps s).1 ∧ Bd 40 (alongS ps s).2 :=
  ⟨((nx_bd ha hs).1.sub (ptAt_bd ha hs).1).mono (by omega), ((nx_bd ha hs).2.sub (ptAt_bd ha hs).2).mono (by omega)⟩
set_option maxRecDepth 100000 in
set_option maxHeartbeats 800000 in
theorem foot_any (ps : List Pt) (b c : Nat) (X Y D : Int) (s : Nat) (w : World) (hp : PtsAt w b 0 ps) (ha : areP ps = true) (hs : s < ps.length) (hX : Bd 400000 X) (hY : Bd 400000 Y) (hD : Bd 30000 D) (h0 : 0 < D) (hne : 0 < dt (alongS ps s) (alongS ps s)) :
    Calls Try.prog 77 #[.agg #[.slice (some ⟨b, 0, none⟩) ps.length c, .int .i64 X, .int .i64 Y, .int .i64 D], .int .i64 (s : Int)] w fun e w' => e = .returned (.agg #[.int .i64 (foot ps (X, Y, D) s).1, .int .i64 (foot ps (X, Y, D) s).2]) ∧ Below w.heap.size w w' := by
  obtain ⟨h3, h12⟩ := areP_len ha
  have HA := Lib.hid (along_any ps b c X Y D s)
  obtain ⟨hcx, hcy⟩ := inR_bd ha hs
  obtain ⟨hax, hay⟩ := alongS_bd ha hs
  have hxx := hp.x _ hs
  have hyy := hp.y _ hs
  rw [Nat.zero_add] at hxx hyy
  have hpt : ptAt ps s = ps[s] := ptAt_lt hs
  have hlt := hp.lt
  have HPA := Lib.hid ha
  have HPP := Lib.hid hp
  have HPS := Lib.hid hs
  obtain ⟨ax, ay, hal⟩ : ∃ ax ay, alongS ps s = (ax, ay) := ⟨_, _, rfl⟩
  generalize ps[s] = pt at hxx hyy hcx hcy hpt
  obtain ⟨cx, cy⟩ := pt
  dsimp only at hxx hyy hcx hcy
  obtain ⟨ix, iy, hin⟩ : ∃ ix iy, inw (X, Y, D) (cx, cy) = (ix, iy) := ⟨_, _, rfl⟩
  have hib := inw_bd hX hY hD hcx hcy
  have hIN := inwards_any X Y D cx cy (.slice (some ⟨b, 0, none⟩) ps.length c)
  rw [hin] at hib hIN
  rw [hal] at hax hay hne
  dsimp only at hib hax hay hIN
  have j1 := ((hib.1.mul hax).add (hib.2.mul hay)).mono (C := 100000000) (by omega)
  have j2 := ((hax.mul hax).add (hay.mul hay)).mono (C := 3200) (by omega)
  have j3 := hD.mul j2
  have e1 : IntKind.i64.wrap (D * dt (ax, ay) (ax, ay)) = D * dt (ax, ay) (ax, ay) := i64_bd j3 (by omega)
  have j4 : 0 < D * dt (ax, ay) (ax, ay) := Int.mul_pos h0 hne
  have fin : foot ps (X, Y, D) s = frac (dt (ix, iy) (ax, ay)) (D * dt (ax, ay) (ax, ay)) := by
    unfold foot; rw [hpt, hin, hal]
  obtain ⟨fn, fd, hfr⟩ : ∃ fn fd, frac (dt (ix, iy) (ax, ay)) (D * dt (ax, ay) (ax, ay)) = (fn, fd) := ⟨_, _, rfl⟩
  have hFR := fractionOf_any (dt (ix, iy) (ax, ay)) (D * dt (ax, ay) (ax, ay))
  rw [hfr] at hFR fin
  dsimp only at hFR
  rw [fin]
  dsimp only
  have HIN := Lib.hid (fun W => hIN W hX hY hD hcx hcy ⟨_, _, _, rfl⟩)
  have HFR := Lib.hid (fun W => hFR W (j1.mono (by omega)) (j3.mono (by omega)) j4)
  have A1 := Lib.hid (hax.mono (C := 100000000) (by omega))
  have A2 := Lib.hid (hay.mono (C := 100000000) (by omega))
  have A3 := Lib.hid (hib.1.mono (C := 100000000) (by omega))
  have A4 := Lib.hid (hib.2.mono (C := 100000000) (by omega))
  have HAL : Hid (∀ W, PtsAt W b 0 ps → Calls Try.prog 101 #[.agg #[.slice (some ⟨b, 0, none⟩) ps.length c, .int .i64 X, .int .i64 Y, .int .i64 D], .int .i64 (s : Int)] W fun e w' => e = .returned (.agg #[.int .i64 ax, .int .i64 ay]) ∧ Below W.heap.size W w') := Lib.hid (fun W h => by
    have := HA.out W h HPA.out HPS.out
    rw [hal] at this; exact this)
  clear hIN hFR hX hY hD hcx hcy hax hay hib j1 j2 j3 j4 fin hfr hin hal hpt hne h0 hs hp ha HA
  have hs2 := HPS.out
  go_enter Try.func77, Try.ntmps77
  go_wp2_with fail
  obtain ⟨W0, hW0⟩ : ∃ W0, W0 = (w.alloc (.cells #[.slice (some ⟨b, 0, none⟩) ps.length c, .int .i64 X, .int .i64 Y, .int .i64 D] 81)).alloc (.cells #[.int .i64 0, .int .i64 0] 88) := ⟨_, rfl⟩
  have B0 := Lib.hid (show Below w.heap.size w W0 by rw [hW0]; exact (((Below.refl w.heap.size w).alloc (Nat.le_refl _) _).alloc (by simp) _))
  have sz := Lib.hid (show W0.heap.size = w.heap.size + 2 by rw [hW0]; simp)
  have P : Hid (∀ W, Below W0.heap.size W0 W → W.cell? ⟨w.heap.size, 0, none⟩ = some (.slice (some ⟨b, 0, none⟩) ps.length c) ∧ W.cell? ⟨w.heap.size, 1, none⟩ = some (.int .i64 X) ∧ W.cell? ⟨w.heap.size, 2, none⟩ = some (.int .i64 Y) ∧ W.cell? ⟨w.heap.size, 3, none⟩ = some (.int .i64 D) ∧ W.cell? ⟨w.heap.size + 1, 0, none⟩ = some (.int .i64 0) ∧ W.cell? ⟨w.heap.size + 1, 1, none⟩ = some (.int .i64 0)) := Lib.hid (fun W h => by
    have hsz := sz.out
    refine ⟨below_at h (by omega) ?_, below_at h (by omega) ?_, below_at h (by omega) ?_, below_at h (by omega) ?_, below_at h (by omega) ?_, below_at h (by omega) ?_⟩ <;> (rw [hW0]; simp [cell_al] <;> (intro h; omega)))
  have fz10 : W0.frozen? ⟨w.heap.size + 1, 0, none⟩ = false := by rw [hW0]; simp [frozen_al]
  have fz11 : W0.frozen? ⟨w.heap.size + 1, 1, none⟩ = false := by rw [hW0]; simp [frozen_al]
  rw [← hW0]
  clear hW0
  obtain ⟨p0, p1, p2, p3, p4, p5⟩ := P.out W0 (Below.refl _ _)
  have T0 := Lib.hid (Below.refl W0.heap.size W0)
  refine (HAL.out W0 (HPP.out.grow B0.out)).mono ?_
  rintro e w1 ⟨rfl, hb⟩
  obtain ⟨V, hV⟩ : ∃ V, V = w1.alloc (.cells #[.int .i64 ax, .int .i64 ay] 58) := ⟨_, rfl⟩
  have BV := Lib.hid (show Below W0.heap.size W0 V by rw [hV]; exact Below.al hb (Nat.le_refl _) _)
  have sV := Lib.hid (show V.heap.size = w1.heap.size + 1 by rw [hV]; simp)
  have a0 : V.cell? ⟨w1.heap.size, 0, none⟩ = some (.int .i64 ax) := by rw [hV]; simp [cell_al]
  have a1 : V.cell? ⟨w1.heap.size, 1, none⟩ = some (.int .i64 ay) := by rw [hV]; simp [cell_al]
  have hs1 := hb.size
  clear p0 p1 p2 p3 p4 p5 T0
  obtain ⟨p0, p1, p2, p3, p4, p5⟩ := P.out w1 hb
  go_wp2_with fail
  rw [← hV]
  clear p0 p1 p2 p3 p4 p5
  obtain ⟨p0, p1, p2, p3, p4, p5⟩ := P.out V BV.out
  have l0 : w.heap.size < V.heap.size := by have := sV.out; have := sz.out; omega
  have l1 : w.heap.size + 1 < V.heap.size := by have := sV.out; have := sz.out; omega
  have l2 : w1.heap.size < V.heap.size := by have := sV.out; omega
  have l3 : b < V.heap.size := by omega
  have hB1 := Below.andThen B0.out BV.out (Nat.le_refl _)
  have f0 := (BV.out.frozen (p := ⟨w.heap.size + 1, 0, none⟩) (show w.heap.size + 1 < W0.heap.size by have := sz.out; omega)).trans fz10
  have f1 := (BV.out.frozen (p := ⟨w.heap.size + 1, 1, none⟩) (show w.heap.size + 1 < W0.heap.size by have := sz.out; omega)).trans fz11
  have u0 := below_at hB1 hlt hxx
  have u1 := below_at hB1 hlt hyy
  have HB1 := Lib.hid hB1
  clear hV hb hB1 hs1
  have x0 := Kl.cell l0 p0
  have x1 := Kl.cell l0 p1
  have x2 := Kl.cell l0 p2
  have x3 := Kl.cell l0 p3
  have x4 := Kl.cell l2 a0
  have x5 := Kl.cell l2 a1
  have x6 := Kl.cell l3 u0
  have x7 := Kl.cell l3 u1
  refine wp_region_cut (C := fun w' => ∃ n : Kl V, w' = n.W) 17 (by kernel_rfl) (by kernel_rfl) ⟨⟨V.drew, (Below.refl _ _).drew⟩, rfl⟩ ?_
  simp only [List.take_succ_cons, List.take_zero, List.drop_succ_cons, List.drop_zero]
  repeat (go_big_quiet_step (first | (go_at_call 71; exact Kl.call (HIN.out _)) | (go_at_call 96; exact Kl.call (HFR.out _)) | (go_at_call 72; exact Kl.call (dot_any _ _ _ _ _ (by first | exact A3.out | exact A1.out) (by first | exact A4.out | exact A2.out) A1.out A2.out))))
  refine wpQuiet_nil ?_
  rintro _ ⟨wq, rfl⟩
  have c4 := below_at wq.h l1 p4
  have c5 := below_at wq.h l1 p5
  have g0 := (wq.h.frozen (p := ⟨w.heap.size + 1, 0, none⟩) l1).trans f0
  have g1 := (wq.h.frozen (p := ⟨w.heap.size + 1, 1, none⟩) l1).trans f1
  have TT := Lib.hid (Below.andThen HB1.out wq.h (Nat.le_refl _))
  clear p0 p1 p2 p3 p4 p5 x0 x1 x2 x3 x4 x5 x6 x7 u0 u1 a0 a1
  go_wp2_with fail
  obtain ⟨q0, q1⟩ := two_set (x := .int .i64 fn) (y := .int .i64 fd) c4 c5
  refine bodyPost_ret (v := .agg #[.int .i64 fn, .int .i64 fd]) (by simp [results, Try.results77, go_sem, q0, q1]) rfl ⟨rfl, ?_⟩
  exact (TT.out.setCell (p := ⟨w.heap.size + 1, 0, none⟩) (by simp) _).setCell (p := ⟨w.heap.size + 1, 1, none⟩) (by simp) _

set_option maxRecDepth 100000 in
set_option maxHeartbeats 800000 in
theorem height_any (ps : List Pt) (b c : Nat) (X Y D : Int) (s : Nat) (w : World) (hp : PtsAt w b 0 ps) (ha : areP ps = true) (hs : s < ps.length) (hX : Bd 400000 X) (hY : Bd 400000 Y) (hD : Bd 30000 D) (h0 : 0 < D) (hne : 0 < dt (alongS ps s) (alongS ps s)) :
    Calls Try.prog 74 #[.agg #[.slice (some ⟨b, 0, none⟩) ps.length c, .int .i64 X, .int .i64 Y, .int .i64 D], .int .i64 (s : Int)] w fun e w' => e = .returned (.agg #[.int .i64 (height ps (X, Y, D) s).1, .int .i64 (height ps (X, Y, D) s).2]) ∧ Below w.heap.size w w' := by
  obtain ⟨h3, h12⟩ := areP_len ha
  have HA := Lib.hid (along_any ps b c X Y D s)
  obtain ⟨hcx, hcy⟩ := inR_bd ha hs
  obtain ⟨hax, hay⟩ := alongS_bd ha hs
  have hxx := hp.x _ hs
  have hyy := hp.y _ hs
  rw [Nat.zero_add] at hxx hyy
  have hpt : ptAt ps s = ps[s] := ptAt_lt hs
  have hlt := hp.lt
  have HPA := Lib.hid ha
  have HPP := Lib.hid hp
  have HPS := Lib.hid hs
  obtain ⟨ax, ay, hal⟩ : ∃ ax ay, alongS ps s = (ax, ay) := ⟨_, _, rfl⟩
  generalize ps[s] = pt at hxx hyy hcx hcy hpt
  obtain ⟨cx, cy⟩ := pt
  dsimp only at hxx hyy hcx hcy
  obtain ⟨ix, iy, hin⟩ : ∃ ix iy, inw (X, Y, D) (cx, cy) = (ix, iy) := ⟨_, _, rfl⟩
  have hib := inw_bd hX hY hD hcx hcy
  have hIN := inwards_any X Y D cx cy (.slice (some ⟨b, 0, none⟩) ps.length c)
  rw [hin] at hib hIN
  rw [hal] at hax hay hne
  dsimp only at hib hax hay hIN
  have j1 := ((hax.mul hib.2).add (hay.neg.mul hib.1)).mono (C := 100000000) (by omega)
  have j2 := ((hax.mul hax).add (hay.mul hay)).mono (C := 3200) (by omega)
  have j3 := (j1.mul j1).mono (C := 10000000000000000) (by omega)
  have e1 : IntKind.i64.wrap (crs (ax, ay) (ix, iy) * crs (ax, ay) (ix, iy)) = crs (ax, ay) (ix, iy) * crs (ax, ay) (ix, iy) := i64_bd j3 (by omega)
  have hH : heightH ps (X, Y, D) s = crs (ax, ay) (ix, iy) := by
    unfold heightH; rw [hpt, hin, hal]
  have fin : height ps (X, Y, D) s = frac (crs (ax, ay) (ix, iy) * crs (ax, ay) (ix, iy)) (dt (ax, ay) (ax, ay)) := by
    unfold height; rw [hH, hal]
  obtain ⟨fn, fd, hfr⟩ : ∃ fn fd, frac (crs (ax, ay) (ix, iy) * crs (ax, ay) (ix, iy)) (dt (ax, ay) (ax, ay)) = (fn, fd) := ⟨_, _, rfl⟩
  have hFR := fractionOf64_any (crs (ax, ay) (ix, iy) * crs (ax, ay) (ix, iy)) (dt (ax, ay) (ax, ay))
  rw [hfr] at hFR fin
  dsimp only at hFR
  rw [fin]
  dsimp only
  have HIN := Lib.hid (fun W => hIN W hX hY hD hcx hcy ⟨_, _, _, rfl⟩)
  have HFR := Lib.hid (fun W => hFR W (j3.mono (by omega)) (j2.mono (by omega)) hne)
  have A1 := Lib.hid (hax.mono (C := 100000000) (by omega))
  have A2 := Lib.hid (hay.mono (C := 100000000) (by omega))
  have A3 := Lib.hid (hib.1.mono (C := 100000000) (by omega))
  have A4 := Lib.hid (hib.2.mono (C := 100000000) (by omega))
  have HAL : Hid (∀ W, PtsAt W b 0 ps → Calls Try.prog 101 #[.agg #[.slice (some ⟨b, 0, none⟩) ps.length c, .int .i64 X, .int .i64 Y, .int .i64 D], .int .i64 (s : Int)] W fun e w' => e = .returned (.agg #[.int .i64 ax, .int .i64 ay]) ∧ Below W.heap.size W w') := Lib.hid (fun W h => by
    have := HA.out W h HPA.out HPS.out
    rw [hal] at this; exact this)
  clear hIN hFR hX hY hD hcx hcy hax hay hib j1 j2 j3 fin hfr hin hal hpt hne h0 hs hp ha HA hH
  have hs2 := HPS.out
  go_enter Try.func74, Try.ntmps74
  go_wp2_with fail
  obtain ⟨W0, hW0⟩ : ∃ W0, W0 = (w.alloc (.cells #[.slice (some ⟨b, 0, none⟩) ps.length c, .int .i64 X, .int .i64 Y, .int .i64 D] 81)).alloc (.cells #[.int .i64 0, .int .i64 0] 88) := ⟨_, rfl⟩
  have B0 := Lib.hid (show Below w.heap.size w W0 by rw [hW0]; exact (((Below.refl w.heap.size w).alloc (Nat.le_refl _) _).alloc (by simp) _))
  have sz := Lib.hid (show W0.heap.size = w.heap.size + 2 by rw [hW0]; simp)
  have P : Hid (∀ W, Below W0.heap.size W0 W → W.cell? ⟨w.heap.size, 0, none⟩ = some (.slice (some ⟨b, 0, none⟩) ps.length c) ∧ W.cell? ⟨w.heap.size, 1, none⟩ = some (.int .i64 X) ∧ W.cell? ⟨w.heap.size, 2, none⟩ = some (.int .i64 Y) ∧ W.cell? ⟨w.heap.size, 3, none⟩ = some (.int .i64 D) ∧ W.cell? ⟨w.heap.size + 1, 0, none⟩ = some (.int .i64 0) ∧ W.cell? ⟨w.heap.size + 1, 1, none⟩ = some (.int .i64 0)) := Lib.hid (fun W h => by
    have hsz := sz.out
    refine ⟨below_at h (by omega) ?_, below_at h (by omega) ?_, below_at h (by omega) ?_, below_at h (by omega) ?_, below_at h (by omega) ?_, below_at h (by omega) ?_⟩ <;> (rw [hW0]; simp [cell_al] <;> (intro h; omega)))
  have fz10 : W0.frozen? ⟨w.heap.size + 1, 0, none⟩ = false := by rw [hW0]; simp [frozen_al]
  have fz11 : W0.frozen? ⟨w.heap.size + 1, 1, none⟩ = false := by rw [hW0]; simp [frozen_al]
  rw [← hW0]
  clear hW0
  obtain ⟨p0, p1, p2, p3, p4, p5⟩ := P.out W0 (Below.refl _ _)
  have T0 := Lib.hid (Below.refl W0.heap.size W0)
  refine (HAL.out W0 (HPP.out.grow B0.out)).mono ?_
  rintro e w1 ⟨rfl, hb⟩
  obtain ⟨V, hV⟩ : ∃ V, V = w1.alloc (.cells #[.int .i64 ax, .int .i64 ay] 58) := ⟨_, rfl⟩
  have BV := Lib.hid (show Below W0.heap.size W0 V by rw [hV]; exact Below.al hb (Nat.le_refl _) _)
  have sV := Lib.hid (show V.heap.size = w1.heap.size + 1 by rw [hV]; simp)
  have a0 : V.cell? ⟨w1.heap.size, 0, none⟩ = some (.int .i64 ax) := by rw [hV]; simp [cell_al]
  have a1 : V.cell? ⟨w1.heap.size, 1, none⟩ = some (.int .i64 ay) := by rw [hV]; simp [cell_al]
  have hs1 := hb.size
  clear p0 p1 p2 p3 p4 p5 T0
  obtain ⟨p0, p1, p2, p3, p4, p5⟩ := P.out w1 hb
  go_wp2_with fail
  rw [← hV]
  clear p0 p1 p2 p3 p4 p5
  obtain ⟨p0, p1, p2, p3, p4, p5⟩ := P.out V BV.out
  have l0 : w.heap.size < V.heap.size := by have := sV.out; have := sz.out; omega
  have l1 : w.heap.size + 1 < V.heap.size := by have := sV.out; have := sz.out; omega
  have l2 : w1.heap.size < V.heap.size := by have := sV.out; omega
  have l3 : b < V.heap.size := by omega
  have hB1 := Below.andThen B0.out BV.out (Nat.le_refl _)
  have f0 := (BV.out.frozen (p := ⟨w.heap.size + 1, 0, none⟩) (show w.heap.size + 1 < W0.heap.size by have := sz.out; omega)).trans fz10
  have f1 := (BV.out.frozen (p := ⟨w.heap.size + 1, 1, none⟩) (show w.heap.size + 1 < W0.heap.size by have := sz.out; omega)).trans fz11
  have u0 := below_at hB1 hlt hxx
  have u1 := below_at hB1 hlt hyy
  have HB1 := Lib.hid hB1
  clear hV hb hB1 hs1
  have x0 := Kl.cell l0 p0
  have x1 := Kl.cell l0 p1
  have x2 := Kl.cell l0 p2
  have x3 := Kl.cell l0 p3
  have x4 := Kl.cell l2 a0
  have x5 := Kl.cell l2 a1
  have x6 := Kl.cell l3 u0
  have x7 := Kl.cell l3 u1
  refine wp_region_below (by kernel_rfl) (by kernel_rfl) ?_
  repeat (go_big_quiet_step (first | (go_at_call 71; exact Kl.call (HIN.out _)) | (go_at_call 65; exact Kl.call (cross_any _ _ _ _ _ A1.out A2.out A3.out A4.out))))
  refine wpQuiet_nil ?_
  rintro _ ⟨wq, rfl⟩
  have c4 := below_at wq.h l1 p4
  have c5 := below_at wq.h l1 p5
  have a0' := below_at wq.h l2 a0
  have a1' := below_at wq.h l2 a1
  have g0 := (wq.h.frozen (p := ⟨w.heap.size + 1, 0, none⟩) l1).trans f0
  have g1 := (wq.h.frozen (p := ⟨w.heap.size + 1, 1, none⟩) l1).trans f1
  have TT := Lib.hid (Below.andThen HB1.out wq.h (Nat.le_refl _))
  have m1 : w.heap.size + 1 < wq.W.heap.size := Nat.lt_of_lt_of_le l1 wq.h.size
  clear p0 p1 p2 p3 p4 p5 x0 x1 x2 x3 x4 x5 x6 x7 u0 u1 a0 a1 f0 f1
  go_wp2_with fail
  refine (dot_any _ _ _ _ _ A1.out A2.out A1.out A2.out).mono ?_
  rintro e w2 ⟨rfl, hb⟩
  have T2 := Lib.hid (Below.andThen TT.out hb (Nat.le_refl _))
  have m2 : w.heap.size + 1 < w2.heap.size := Nat.lt_of_lt_of_le m1 hb.size
  have c4' := below_at hb m1 c4
  have c5' := below_at hb m1 c5
  have g0' := (hb.frozen (p := ⟨w.heap.size + 1, 0, none⟩) m1).trans g0
  have g1' := (hb.frozen (p := ⟨w.heap.size + 1, 1, none⟩) m1).trans g1
  clear hb c4 c5 g0 g1 a0' a1'
  go_wp2_with fail
  refine (HFR.out _).mono ?_
  rintro e w3 ⟨rfl, hb⟩
  have T3 := Lib.hid (Below.andThen T2.out hb (Nat.le_refl _))
  have c4 := below_at hb m2 c4'
  have c5 := below_at hb m2 c5'
  have g0 := (hb.frozen (p := ⟨w.heap.size + 1, 0, none⟩) m2).trans g0'
  have g1 := (hb.frozen (p := ⟨w.heap.size + 1, 1, none⟩) m2).trans g1'
  clear hb c4' c5' g0' g1'
  go_wp2_with fail
  obtain ⟨q0, q1⟩ := two_set (x := .int .i64 fn) (y := .int .i64 fd) c4 c5
  refine bodyPost_ret (v := .agg #[.int .i64 fn, .int .i64 fd]) (by simp [results, Try.results74, go_sem, q0, q1]) rfl ⟨rfl, ?_⟩
  exact (T3.out.setCell (p := ⟨w.heap.size + 1, 0, none⟩) (by simp) _).setCell (p := ⟨w.heap.size + 1, 1, none⟩) (by simp) _
end Go.Proofs.Ytlehddifcjklgaa
