import Derived.Test.YtlehddifcjklgaaCi
import Derived.Test.YtlehddifcjklgaaTb
import Derived.Maps.OwnIn
import Derived.Maps.OwnSet
import Derived.Maps.AppendAt
import Derived.RangeFuncNested
import Derived.RangeFuncBound
import Derived.RangeFuncCalls
import Derived.RangeFuncLeaves
import Derived.Shelf.Abstract
import Derived.Shelf.RegionOpen
import Derived.WalkKit
import Derived.OwnWalkIn
import Derived.TacticsInMore
import Derived.LoopNIn
import Derived.LoopIn
import Derived.WalkMore
import Derived.Sort.QuietThIn
import Derived.Sort.QuietTacIn
import Derived.Sort.BigQuietIn
import Derived.WalkSpells
import Derived.WalkLawsBesides
import Derived.BigQuiet
import Derived.Deep.QuietTactic
import Derived.Lib.Hide
import Derived.Deep.RegionHeld3
import Derived.StillTailTactics
import Derived.Deep.LoopGhost
import Derived.Lib.IndexAny
namespace Go.Proofs.Ytlehddifcjklgaa
open Go.RowKit Go.Shelf
attribute [local go_sem] Oper.semAt_some
set_option maxRecDepth 100000 in
set_option maxHeartbeats 1000000 in
theorem rAlong_any (X Y D a1 a2 b1 b2 : Int) (w : World) (hX : Bd 400000 X) (hY : Bd 400000 Y) (hD : Bd 30000 D) (h1 : Bd 20 a1) (h2 : Bd 20 a2) (h3 : Bd 20 b1) (h4 : Bd 20 b2) :
    Calls Try.prog 82 #[.agg #[.int .i64 X, .int .i64 Y, .int .i64 D], .agg #[.int .i64 a1, .int .i64 a2], .agg #[.int .i64 b1, .int .i64 b2]] w fun e w' => e = .returned (.int .i64 (alF (X, Y, D) (a1, a2) (b1, b2))) ∧ Below w.heap.size w w' := by
  have m1 := h1.mul hD
  have m2 := h2.mul hD
  have s1 := hX.sub m1
  have s2 := hY.sub m2
  have s3 := h3.sub h1
  have s4 := h4.sub h2
  have p1 := s3.mul s1
  have p2 := s4.mul s2
  have e1 : IntKind.i64.wrap (a1 * D) = a1 * D := i64_bd m1 (by omega)
  have e2 : IntKind.i64.wrap (a2 * D) = a2 * D := i64_bd m2 (by omega)
  have e3 : IntKind.i64.wrap (X - a1 * D) = X - a1 * D := i64_bd s1 (by omega)
  have e4 : IntKind.i64.wrap (Y - a2 * D) = Y - a2 * D := i64_bd s2 (by omega)
  have e5 : IntKind.i64.wrap (b1 - a1) = b1 - a1 := i64_bd s3 (by omega)
  have e6 : IntKind.i64.wrap (b2 - a2) = b2 - a2 := i64_bd s4 (by omega)
  have e7 : IntKind.i64.wrap ((b1 - a1) * (X - a1 * D)) = (b1 - a1) * (X - a1 * D) := i64_bd p1 (by omega)
  have e8 : IntKind.i64.wrap ((b2 - a2) * (Y - a2 * D)) = (b2 - a2) * (Y - a2 * D) := i64_bd p2 (by omega)
  have e9 : IntKind.i64.wrap ((b1 - a1) * (X - a1 * D) + (b2 - a2) * (Y - a2 * D)) = (b1 - a1) * (X - a1 * D) + (b2 - a2) * (Y - a2 * D) := i64_bd (p1.add p2) (by omega)
  have fin : alF (X, Y, D) (a1, a2) (b1, b2) = (b1 - a1) * (X - a1 * D) + (b2 - a2) * (Y - a2 * D) := rfl
  have Fin := Lib.hid fin
  clear m1 m2 s1 s2 s3 s4 p1 p2 hX hY hD h1 h2 h3 h4 fin
  go_enter Try.func82, Try.ntmps82
  go_wp2_with fail
  refine bodyPost_ret (v := .int .i64 ((b1 - a1) * (X - a1 * D) + (b2 - a2) * (Y - a2 * D))) (by simp [results, Try.results82, go_sem]) rfl ?_
  exact ⟨by rw [Fin.out], (((Below.refl w.heap.size w).alloc (Nat.le_refl _) _).alloc (by simp) _).alloc (by simp; omega) _⟩
set_option maxRecDepth 100000 in
set_option maxHeartbeats 1000000 in
theorem rEnds_any (ps : List Pt) (b c s : Nat) (w : World) (hp : PtsAt w b 0 ps) (h12 : ps.length ≤ 12) (hs : s < ps.length) :
    Calls Try.prog 83 #[.slice (some ⟨b, 0, none⟩) ps.length c, .int .i64 (s : Int)] w fun e w' => e = .returned (.tuple #[.agg #[.int .i64 (ptAt ps s).1, .int .i64 (ptAt ps s).2], .agg #[.int .i64 (nx ps s).1, .int .i64 (nx ps s).2]]) ∧ Below w.heap.size w w' := by
  obtain ⟨j, hj⟩ : ∃ j, (s + 1) % ps.length = j := ⟨_, rfl⟩
  have hjl : j < ps.length := by rw [← hj]; exact Nat.mod_lt _ (by omega)
  have ej2 : ((s : Int) + 1) % (ps.length : Int) = (j : Int) := by rw [← hj, Int.natCast_emod]; rfl
  have ej1 : ((s : Int) + 1).tmod (ps.length : Int) = (j : Int) := by
    rw [Int.tmod_eq_emod_of_nonneg (by omega)]; exact ej2
  have z1 : ¬ ((ps.length : Int) = 0) := by omega
  have z2 : ¬ (ps.length = 0) := by omega
  have z3 : ¬ (ps = []) := fun h => by subst h; simp at hs
  have i1 : (0 : Int) ≤ (s : Int) := by omega
  have i2 : (0 : Int) ≤ (j : Int) := by omega
  have i3 : (j : Int) < (ps.length : Int) := by omega
  have i4 : (s : Int) < (ps.length : Int) := by omega
  have w1 : IntKind.i64.wrap ((s : Int) + 1) = (s : Int) + 1 := i64_of _ (by omega) (by omega)
  have hxw := hp.x s hs
  have hyw := hp.y s hs
  have hx2w := hp.x j hjl
  have hy2w := hp.y j hjl
  have hnx : nx ps s = ptAt ps j := by unfold nx; rw [hj]
  rw [Nat.zero_add] at hxw hyw hx2w hy2w
  rw [← ptAt_lt hs] at hxw hyw
  rw [← ptAt_lt hjl] at hx2w hy2w
  rw [hnx]
  have hpl := hp.lt
  generalize ptAt ps s = p at *
  generalize ptAt ps j = q at *
  obtain ⟨p1, p2⟩ := p
  obtain ⟨q1, q2⟩ := q
  dsimp only at *
  clear hp hj hnx
  have SS := Lib.hid (show ∀ W, Below w.heap.size w W → W.cell? ⟨b, s * 2, none⟩ = some (.int .i64 p1) ∧ W.cell? ⟨b, s * 2 + 1, none⟩ = some (.int .i64 p2) ∧ W.cell? ⟨b, j * 2, none⟩ = some (.int .i64 q1) ∧ W.cell? ⟨b, j * 2 + 1, none⟩ = some (.int .i64 q2) from fun W h => ⟨below_at h hpl hxw, below_at h hpl hyw, below_at h hpl hx2w, below_at h hpl hy2w⟩)
  have BD := Lib.hid (show Below w.heap.size w ((w.alloc (.cells #[.int .i64 0, .int .i64 0] 58)).alloc (.cells #[.int .i64 0, .int .i64 0] 58)).drew from (((Below.refl w.heap.size w).alloc (Nat.le_refl _) _).alloc (by simp) _).drew)
  clear hxw hyw hx2w hy2w
  go_enter Try.func83, Try.ntmps83
  go_wp2_with fail
  go_region_held3 (fun W => W.cell? ⟨b, s * 2, none⟩ = some (.int .i64 p1) ∧ W.cell? ⟨b, s * 2 + 1, none⟩ = some (.int .i64 p2) ∧ W.cell? ⟨b, j * 2, none⟩ = some (.int .i64 q1) ∧ W.cell? ⟨b, j * 2 + 1, none⟩ = some (.int .i64 q2))
    ((refine SS.out _ ?_; repeat (first | exact BD.out | (refine Below.drew ?_) | (refine Below.al ?_ (Nat.le_refl _) _) | (refine Below.setCell ?_ (by simp) _) | exact Below.refl _ _))) (first | fail)
  obtain ⟨V, hV, ⟨c0, c1, c2, c3⟩, hbv⟩ := two_rows (W := w) p1 p2 q1 q2 58
  rw [← hV]
  have BV := Lib.hid hbv
  clear hV hbv SS BD
  go_wp2_with fail
  refine bodyPost_ret (v := .tuple #[.agg #[.int .i64 p1, .int .i64 p2], .agg #[.int .i64 q1, .int .i64 q2]]) (by simp [results, Try.results83, go_sem, c0, c1, c2, c3]) rfl ?_
  exact ⟨rfl, BV.out⟩
theorem two_pts {W : World} (a b c d : Int) : ∃ V, V = ((W.alloc (.cells #[.int .i64 a, .int .i64 b] 58)).alloc (.cells #[.int .i64 c, .int .i64 d] 58)) ∧ (Row V W.heap.size 58 [.int .i64 a, .int .i64 b] ∧ Row V (W.heap.size + 1) 58 [.int .i64 c, .int .i64 d]) ∧ Below W.heap.size W V := by
  refine ⟨_, rfl, ⟨?_, ?_⟩, ((Below.refl _ _).alloc (Nat.le_refl _) _).alloc (by simp) _⟩
  · exact (Row.new W 58 [.int .i64 a, .int .i64 b]).below ((Below.refl _ _).alloc (Nat.le_refl _) _) (by simp)
  · have h := Row.new (W.alloc (.cells #[.int .i64 a, .int .i64 b] 58)) 58 [.int .i64 c, .int .i64 d]
    simp only [World.size_alloc] at h
    exact h
def OK82 (X Y D a1 a2 b1 b2 r : Int) : Prop := ∀ W, Calls Try.prog 82 #[.agg #[.int .i64 X, .int .i64 Y, .int .i64 D], .agg #[.int .i64 a1, .int .i64 a2], .agg #[.int .i64 b1, .int .i64 b2]] W fun e w' => e = .returned (.int .i64 r) ∧ Below W.heap.size W w'
theorem OK82.call {X Y D a1 a2 b1 b2 r : Int} (h : OK82 X Y D a1 a2 b1 b2 r) (W : World) : Calls Try.prog 82 #[.agg #[.int .i64 X, .int .i64 Y, .int .i64 D], .agg #[.int .i64 a1, .int .i64 a2], .agg #[.int .i64 b1, .int .i64 b2]] W fun e w' => e = .returned (.int .i64 r) ∧ Below W.heap.size W w' := h W
set_option maxRecDepth 100000 in
set_option maxHeartbeats 1000000 in
theorem rRest_any (ps : List Pt) (b c s : Nat) (fm : Bool) (w : World) (hp : PtsAt w b 0 ps) (hck : chk ps = true) (hs : s < ps.length) :
    Calls Try.prog 81 #[.slice (some ⟨b, 0, none⟩) ps.length c, .int .i64 (s : Int), .bool fm] w fun e w' => e = .returned (.bool (if fm then firmB ps (mid ps) s else restB ps (mid ps) s)) ∧ Below w.heap.size w w' := by
  have ha := chk_areP hck
  have hA := chk_area hck
  obtain ⟨h3, h12⟩ := areP_len ha
  obtain ⟨m1, m2, m3, m4⟩ := mid_facts ha hA
  have hD := footD_pos hck hs
  have hRM := rMiddle_any ps b c w hp ha hA
  have b1 := ptAt_bd ha hs
  have b2 := nx_bd ha hs
  have hx : alF (mid ps) (ptAt ps s) (nx ps s) = footA ps (mid ps) s := al_first ps (mid ps) s
  have hy : alF (mid ps) (nx ps s) (ptAt ps s) = footD ps (mid ps) s - footA ps (mid ps) s := al_second ps (mid ps) s
  have hfin : (if fm then firmB ps (mid ps) s else restB ps (mid ps) s) = (if fm then (decide (0 < alF (mid ps) (ptAt ps s) (nx ps s)) && decide (0 < alF (mid ps) (nx ps s) (ptAt ps s))) else (decide (0 ≤ alF (mid ps) (ptAt ps s) (nx ps s)) && decide (0 ≤ alF (mid ps) (nx ps s) (ptAt ps s)))) := by
    rw [hx, hy, firm_eq hD, rest_eq hD]
    cases fm
    · simp only [Bool.false_eq_true, if_false]; congr 1; exact decide_eq_decide.2 (by omega)
    · simp only [if_true]; congr 1; exact decide_eq_decide.2 (by omega)
  rw [hfin]
  have HE := Lib.hid (fun W (h : PtsAt W b 0 ps) => rEnds_any ps b c s W h h12 hs)
  have HP := Lib.hid hp
  generalize ptAt ps s = p at *
  generalize nx ps s = q at *
  obtain ⟨p1, p2⟩ := p
  obtain ⟨q1, q2⟩ := q
  obtain ⟨X, Y, D, hm⟩ : ∃ X Y D, mid ps = (X, Y, D) := ⟨_, _, _, rfl⟩
  rw [hm] at m1 m2 m3 hRM ⊢
  dsimp only at m1 m2 m3 hRM b1 b2 HE
  have HA1 := Lib.hid (fun W => rAlong_any X Y D p1 p2 q1 q2 W m1 m2 m3 b1.1 b1.2 b2.1 b2.2)
  have HA2 := Lib.hid (fun W => rAlong_any X Y D q1 q2 p1 p2 W m1 m2 m3 b2.1 b2.2 b1.1 b1.2)
  obtain ⟨x, hx'⟩ : ∃ x, alF (X, Y, D) (p1, p2) (q1, q2) = x := ⟨_, rfl⟩
  obtain ⟨y, hy'⟩ : ∃ y, alF (X, Y, D) (q1, q2) (p1, p2) = y := ⟨_, rfl⟩
  rw [hx', hy']
  rw [hx'] at HA1
  rw [hy'] at HA2
  have O1 := Lib.hid (show OK82 X Y D p1 p2 q1 q2 x from HA1.out)
  have O2 := Lib.hid (show OK82 X Y D q1 q2 p1 p2 y from HA2.out)
  obtain ⟨R, hR⟩ : ∃ R, (if fm then (decide (0 < x) && decide (0 < y)) else (decide (0 ≤ x) && decide (0 ≤ y))) = R := ⟨_, rfl⟩
  rw [hR]
  have HR := Lib.hid hR
  clear hp hck ha hA m1 m2 m3 m4 hD b1 b2 hx hy hfin hm hx' hy' hR
  go_enter Try.func81, Try.ntmps81
  go_wp2_with fail
  refine hRM.mono ?_
  rintro e w1 ⟨rfl, hb⟩
  obtain ⟨V, hV⟩ : ∃ V, V = w1.alloc (.cells #[.int .i64 X, .int .i64 Y, .int .i64 D] 29) := ⟨_, rfl⟩
  have T1 := Lib.hid (show Below w.heap.size w V by rw [hV]; exact Below.al hb (Nat.le_refl _) _)
  have rV := Lib.hid (show Row V w1.heap.size 29 [.int .i64 X, .int .i64 Y, .int .i64 D] by rw [hV]; exact Row.new _ _ _)
  clear hb hRM
  go_wp2_with fail
  rw [← hV]
  clear hV
  refine (HE.out V (HP.out.grow T1.out)).mono ?_
  rintro e w2 ⟨rfl, hb⟩
  go_wp2_with fail
  obtain ⟨V2, hV2, ⟨r1, r2⟩, hb2⟩ := two_pts (W := w2) p1 p2 q1 q2
  rw [← hV2]
  have HB2 := Lib.hid (Below.andThen hb hb2 (Nat.le_refl _))
  have T2 := Lib.hid (Below.andThen T1.out HB2.out (Nat.le_refl _))
  have rV2 := rV.out.below HB2.out rV.out.lt
  have u0 := Kl.cell r1.lt (r1.cell 0)
  have u1 := Kl.cell r1.lt (r1.cell 1)
  have u2 := Kl.cell r2.lt (r2.cell 0)
  have u3 := Kl.cell r2.lt (r2.cell 1)
  have u4 := Kl.cell rV2.lt (rV2.cell 0)
  have u5 := Kl.cell rV2.lt (rV2.cell 1)
  have u6 := Kl.cell rV2.lt (rV2.cell 2)
  clear hV2 hb hb2 r1 r2 rV2 HA1 HA2 T1
  refine wp_region_below (by kernel_rfl) (by kernel_rfl) ?_
  iterate 3 (go_big_quiet_step (fail))
  go_big_quiet_step (first | (go_at_call 82; exact Kl.call (O1.out _)))
  iterate 3 (go_big_quiet_step (fail))
  go_big_quiet_step (first | (go_at_call 82; exact Kl.call (O2.out _)))
  repeat (go_big_quiet_step (fail))
  refine wpQuiet_nil ?_
  rintro _ ⟨wq, rfl⟩
  have T3 := Lib.hid (Below.andThen T2.out wq.h (Nat.le_refl _))
  generalize wq.W = w3 at *
  clear u0 u1 u2 u3 u4 u5 u6
  clear HE HP O1 O2 rV T2
  cases fm
  · obtain ⟨tx, htx⟩ : ∃ t, decide (0 ≤ x) = t := ⟨_, rfl⟩
    obtain ⟨ty, hty⟩ : ∃ t, decide (0 ≤ y) = t := ⟨_, rfl⟩
    have HR2 := Lib.hid (show R = (tx && ty) by rw [← HR.out, htx, hty]; rfl)
    clear HR
    cases tx
    · go_wp2_with fail
      go_ret
      exact ⟨ret_bool HR2.out.symm, T3.out⟩
    · cases ty
      all_goals
        go_wp2_with fail
        go_ret
        exact ⟨ret_bool HR2.out.symm, T3.out⟩
  · obtain ⟨tx, htx⟩ : ∃ t, decide (0 < x) = t := ⟨_, rfl⟩
    obtain ⟨ty, hty⟩ : ∃ t, decide (0 < y) = t := ⟨_, rfl⟩
    have HR2 := Lib.hid (show R = (tx && ty) by rw [← HR.out, htx, hty]; rfl)
    clear HR
    cases tx
    · go_wp2_with fail
      go_ret
      exact ⟨ret_bool HR2.out.symm, T3.out⟩
    · cases ty
      all_goals
        go_wp2_with fail
        go_ret
        exact ⟨ret_bool HR2.out.symm, T3.out⟩
end Go.Proofs.Ytlehddifcjklgaa
