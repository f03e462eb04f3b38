import Derived.Test.YtlehddifcjklgaaTa
import Derived.Maps.OwnIn
import Derived.Maps.OwnSet
import Derived.Maps.AppendAt
import Derived.RangeFuncNested
import Derived.RangeFuncBound
import Derived.RangeFuncCalls
import Derived.RangeFuncLeaves
import Derived.Shelf.Abstract
import Derived.Shelf.RegionOpen
import Derived.WalkKit
import Derived.OwnWalkIn
import Derived.TacticsInMore
import Derived.LoopNIn
import Derived.LoopIn
import Derived.Sort.QuietThIn
import Derived.Sort.QuietTacIn
import Derived.Sort.BigQuietIn
import Derived.WalkSpells
import Derived.WalkLawsBesides
import Derived.BigQuiet
import Derived.Deep.QuietTactic
import Derived.Lib.Hide
import Derived.Deep.RegionHeld3
import Derived.StillTailTactics
import Derived.Deep.LoopGhost
import Derived.Lib.IndexAny
namespace Go.Proofs.Ytlehddifcjklgaa
open Go.RowKit Go.Shelf
attribute [local go_sem] Oper.semAt_some
theorem len18 {vs : List Value} (h : vs.length = 18) : ∃ x0 x1 x2 x3 x4 x5 x6 x7 x8 x9 x10 x11 x12 x13 x14 x15 x16 x17, vs = [x0, x1, x2, x3, x4, x5, x6, x7, x8, x9, x10, x11, x12, x13, x14, x15, x16, x17] := by
  match vs, h with
  | [x0, x1, x2, x3, x4, x5, x6, x7, x8, x9, x10, x11, x12, x13, x14, x15, x16, x17], _ => exact ⟨_, _, _, _, _, _, _, _, _, _, _, _, _, _, _, _, _, _, rfl⟩
theorem Row.boxed {W : World} {g : Nat} {t : TypeId} {v : Value} (h : Row W g t [v]) : Boxed W g t v := h
/-- the corners that are tips -/
def tipB (ps : List Pt) (m : Int × Int × Int) (i : Nat) : Bool := decide (0 < dt (inw m (ptAt ps i)) (mn (pv ps i) (ptAt ps i))) && decide (0 < dt (inw m (ptAt ps i)) (mn (nx ps i) (ptAt ps i)))
set_option maxRecDepth 100000 in
set_option maxHeartbeats 1000000 in
theorem tips_in (ps : List Pt) (b c : Nat) (w : World) (hp : PtsAt w b 0 ps) (hck : chk ps = true) (hD0 : 0 < area ps) :
    CallsIn Fence.wide 3 Try.prog 25 #[.slice (some ⟨b, 0, none⟩) ps.length c] w fun e w' => ∃ v, e = .returned (.tuple #[v, .int .i64 0]) ∧ w'.ownsRow w.heap.size 3 1 v (sidesL (tipB ps (mid ps)) ps.length).length ((sidesL (tipB ps (mid ps)) ps.length).map encI) ∧ Below w.heap.size w w' := by
  have ha : areP ps = true := by unfold chk at hck; exact (Bool.and_eq_true _ _ ▸ hck : _ ∧ _).1
  obtain ⟨h3, h12⟩ := areP_len ha
  obtain ⟨i0, hi, hz0, hz1, hz2⟩ := info_parts info3
  have HA := Lib.hid ha
  have HM := Lib.hid (fun W (h : PtsAt W b 0 ps) => bodyOf_none ps b c W h hck hD0)
  obtain ⟨m1, m2, m3, m4⟩ := mid_facts ha hD0
  refine callsIn_of_wp_marks Try.func25 rfl trivial ?_ rfl
  simp only [Try.ntmps25, List.size_toArray, List.length_cons, List.length_nil, Nat.reduceAdd, Nat.reduceSub, Array.replicate_succ, Array.replicate_zero, List.push_toArray, List.append_toArray, List.nil_append, List.cons_append]
  gi_wp2_with fail
  refine ⟨trivial, ?_⟩
  have HMw := HM.out w hp
  obtain ⟨X, hX⟩ : ∃ X, (mid ps).1 = X := ⟨_, rfl⟩
  obtain ⟨Y, hY⟩ : ∃ Y, (mid ps).2.1 = Y := ⟨_, rfl⟩
  obtain ⟨D, hDD⟩ : ∃ D, (mid ps).2.2 = D := ⟨_, rfl⟩
  have HMID := Lib.hid (show mid ps = (X, Y, D) by rw [← hX, ← hY, ← hDD])
  rw [hX, hY, hDD] at HMw
  rw [hX] at m1
  rw [hY] at m2
  rw [hDD] at m3 m4
  generalize hTP : tipB ps (mid ps) = tp at *
  have HTP := Lib.hid hTP
  clear hX hY hDD hTP HM hck hD0
  refine (callsIn_wide.2 HMw).mono ?_
  rintro e w1 ⟨rfl, hb1⟩
  have T1 := Lib.hid hb1
  clear hb1 HMw
  gi_wp2_with fail
  refine ⟨trivial, ?_⟩
  obtain ⟨W0, hW0⟩ : ∃ W0, W0 = (w1.alloc (.cells #[.slice (some ⟨b, 0, none⟩) ps.length c, .int .i64 X, .int .i64 Y, .int .i64 D] 81)).alloc (.cells #[.slice none 0 0] 32) := ⟨_, rfl⟩
  have B0 : Below w.heap.size w W0 := by rw [hW0]; exact Below.al (Below.al T1.out (Nat.le_refl _) _) (Nat.le_refl _) _
  have s0 : W0.heap.size = w1.heap.size + 2 := by rw [hW0]; simp
  have r0 : Row W0 w1.heap.size 81 [.slice (some ⟨b, 0, none⟩) ps.length c, .int .i64 X, .int .i64 Y, .int .i64 D] := by
    rw [hW0]; exact (Row.new _ _ _).below ((Below.refl _ _).alloc (Nat.le_refl _) _) (by simp)
  have r1 : Boxed W0 (w1.heap.size + 1) 32 (.slice none 0 0) := by
    rw [hW0]
    have h := Row.new (w1.alloc (.cells #[.slice (some ⟨b, 0, none⟩) ps.length c, .int .i64 X, .int .i64 Y, .int .i64 D] 81)) 32 [.slice none 0 0]
    simp only [World.size_alloc] at h
    exact h
  rw [← hW0]
  clear hW0
  refine (callsIn_wide.2 (corners_any _ _ _ _)).mono ?_
  rintro e w2 ⟨rfl, rfl⟩
  obtain ⟨V, hV⟩ : ∃ V, V = W0.alloc (.cells #[.slice (some ⟨b, 0, none⟩) ps.length c] 22) := ⟨_, rfl⟩
  have BV : Below w.heap.size w V := by rw [hV]; exact Below.al B0 (Nat.le_refl _) _
  have sV : V.heap.size = w1.heap.size + 3 := by rw [hV]; simp; omega
  have zb : Boxed V W0.heap.size 22 (.slice (some ⟨b, 0, none⟩) ps.length c) := by rw [hV]; exact Boxed.new _ _ _
  have sw := T1.out.size
  have q1 : Acc V w.heap.size (w1.heap.size + 1) [] (.slice none 0 0) := ⟨by omega, by rw [hV]; exact r1.alloc _, World.ownsRow_nil _ _ _ _⟩
  have q0 : Row V w1.heap.size 81 [.slice (some ⟨b, 0, none⟩) ps.length c, .int .i64 X, .int .i64 Y, .int .i64 D] := by
    rw [hV]; exact r0.below ((Below.refl _ _).alloc (Nat.le_refl _) _) r0.lt
  have zp := hp.grow BV
  rw [← hV]
  clear hV r1 r0 B0
  have BVh := Lib.hid BV
  have ZP := Lib.hid zp
  have ZB := Lib.hid zb
  have hbl := hp.lt
  have hq := Lib.hid q1
  have RB := Lib.hid q0
  have FA := Lib.hid (And.intro s0 (And.intro sV sw))
  clear BV hp zp zb q1 q0 s0 sV sw
  gi_wp2_with fail
  refine range_corners 3 W0.heap.size b c (by omega) ps h3 h12 rfl (by have := FA.out; omega) ZB.out.cell ZP.out
    (fun pre W => ((∃ v, Acc W w.heap.size (w1.heap.size + 1) ((pre.filter tp).map Int.ofNat) v) ∧ W.heap[W0.heap.size]? = some (.cells #[.slice (some ⟨b, 0, none⟩) ps.length c] 22 (0, 0)) ∧ Row W w1.heap.size 81 [.slice (some ⟨b, 0, none⟩) ps.length c, .int .i64 X, .int .i64 Y, .int .i64 D]) ∧ Below w.heap.size w W)
    (fun _ _ => False)
    (fun _ => (Lasts.and (fun W W' row hi hg hr => let ⟨v, h⟩ := hi; ⟨v, h.grown hg (fun r e => (hr r e).2)⟩) ((lasts_heap _ _ _ _).and (lasts_row _ _ _ _))).and (lasts_below _ _ _ (by have := FA.out; omega) (Nat.le_refl _)))
    (fun _ => fun _ _ _ h _ _ => h)
    ⟨⟨⟨_, hq.out⟩, ZB.out, RB.out⟩, BVh.out⟩
    (fun x Bx => { tmps := #[.slice (some ⟨b, 0, none⟩) ps.length c, undef, .slice none 0 0, .int .i64 0, .pointer (some ⟨w1.heap.size, 0, none⟩), .int .i64 0, .pointer (some ⟨w1.heap.size + 1, 0, none⟩), .int .i64 (x : Int), .pointer (some ⟨Bx, 0, none⟩), undef, .tuple #[.agg #[.slice (some ⟨b, 0, none⟩) ps.length c, .int .i64 X, .int .i64 Y, .int .i64 D], .int .i64 0], .slice (some ⟨b, 0, none⟩) ps.length c, .tuple #[.agg #[.slice (some ⟨b, 0, none⟩) ps.length c, .int .i64 X, .int .i64 Y, .int .i64 D], .int .i64 0], .agg #[.slice (some ⟨b, 0, none⟩) ps.length c, .int .i64 X, .int .i64 Y, .int .i64 D], .int .i64 0, .int .i64 0, .bool false, undef, .slice (some ⟨b, 0, none⟩) ps.length c, .func (.func 97) #[] #[.pointer (some ⟨W0.heap.size, 0, none⟩)], .int .i64 (x : Int), .agg (cornerCells ps x), undef, undef, undef, undef, undef, undef, undef, undef, undef, undef, undef, undef, undef, undef, undef, undef, undef, undef, undef, undef, undef, undef, undef, undef, undef, undef, undef], defers := [] }) ?assign ?body ?done ?stop
  case assign =>
    intro l x W K hK
    simp only [cornerCells, List.setIfInBounds_toArray, List.set_cons_succ, List.set_cons_zero] at hK ⊢
    gi_wp2
    exact hK
  case body =>
    rintro l x Bx pre Wr hx hBx hW hcx ⟨⟨⟨vA, aA⟩, hbs, hrb⟩, hB⟩ hlen hpre
    have n0 := pv_bd HA.out hx
    have n1 := ptAt_bd HA.out hx
    have n2 := nx_bd HA.out hx
    have HTX := Lib.hid (show tp x = (decide (0 < dt (inw (X, Y, D) ((ptAt ps x).1, (ptAt ps x).2)) (mn ((pv ps x).1, (pv ps x).2) ((ptAt ps x).1, (ptAt ps x).2))) && decide (0 < dt (inw (X, Y, D) ((ptAt ps x).1, (ptAt ps x).2)) (mn ((nx ps x).1, (nx ps x).2) ((ptAt ps x).1, (ptAt ps x).2)))) by
      rw [← HTP.out, HMID.out]; rfl)
    have c0 := Lib.hid hcx.c0
    have c1 := Lib.hid hcx.c1
    have c2 := Lib.hid hcx.c2
    have c3 := Lib.hid hcx.c3
    have c4 := Lib.hid hcx.c4
    have c5 := Lib.hid hcx.c5
    have lx := hcx.lt
    clear hcx
    generalize ptAt ps x = pa at *
    generalize nx ps x = pb at *
    generalize pv ps x = pz at *
    have IW := Lib.hid (fun W => inwards_any X Y D pa.1 pa.2 (.slice (some ⟨b, 0, none⟩) ps.length c) W m1 m2 m3 n1.1 n1.2 ⟨_, _, _, rfl⟩)
    have ib := inw_bd m1 m2 m3 n1.1 n1.2
    obtain ⟨i1, hi1⟩ : ∃ v, (inw (X, Y, D) (pa.1, pa.2)).1 = v := ⟨_, rfl⟩
    obtain ⟨i2, hi2⟩ : ∃ v, (inw (X, Y, D) (pa.1, pa.2)).2 = v := ⟨_, rfl⟩
    rw [hi1, hi2] at ib IW
    rw [show inw (X, Y, D) (pa.1, pa.2) = (i1, i2) from Prod.ext hi1 hi2] at HTX
    obtain ⟨z, hz⟩ : ∃ z, (pre.filter tp).map Int.ofNat = z := ⟨_, rfl⟩
    have HZ := Lib.hid hz
    have hl0 : z.length ≤ 12 := by rw [← hz, List.length_map]; have := List.length_filter_le tp pre; omega
    rw [hz] at aA
    have AA := Lib.hid aA
    have hn0 : w.heap.size ≤ Wr.heap.size := hB.size
    have HB := Lib.hid hB
    have HBS := Lib.hid hbs
    have HRB := Lib.hid hrb
    have r0 := hrb.cell 0
    have r1 := hrb.cell 1
    have r2 := hrb.cell 2
    have r3 := hrb.cell 3
    simp only [List.getElem?_cons_zero, List.getElem?_cons_succ] at r0 r1 r2 r3
    have q2 := c2.out
    have q3 := c3.out
    have hbl2 : b < Wr.heap.size := by have := FA.out; omega
    have LB := Lib.hid (show w1.heap.size < Wr.heap.size from hrb.lt)
    clear hi1 hi2 hz aA hB hbs hrb hpre
    gi_wp2_with fail
    refine ⟨trivial, ?_⟩
    refine (CallsIn.inRound l (callsIn_wide.2 (IW.out Wr))).mono ?_
    rintro e W1 ⟨rfl, hb1⟩
    have H1 := Lib.hid hb1
    clear hb1 r0 r1 r2 r3 q2 q3
    gi_wp2_with fail
    obtain ⟨V, hV⟩ : ∃ V, V = W1.alloc (.cells #[.int .i64 i1, .int .i64 i2] 58) := ⟨_, rfl⟩
    have BV := Lib.hid (show Below Wr.heap.size Wr V by rw [hV]; exact Below.al H1.out (Nat.le_refl _) _)
    have rV : Row V W1.heap.size 58 [.int .i64 i1, .int .i64 i2] := by rw [hV]; exact Row.new _ _ _
    rw [← hV]
    clear hV
    have lV := Lib.hid (show Bx < V.heap.size from Nat.lt_of_lt_of_le lx BV.out.size)
    have KK := Lib.hid (show ∀ W, Below V.heap.size V W → (W.cell? ⟨W1.heap.size, 0, none⟩ = some (.int .i64 i1) ∧ W.cell? ⟨W1.heap.size, 1, none⟩ = some (.int .i64 i2)) ∧ W.cell? ⟨Bx, 0, none⟩ = some (.int .i64 pz.1) ∧ W.cell? ⟨Bx, 1, none⟩ = some (.int .i64 pz.2) ∧ W.cell? ⟨Bx, 2, none⟩ = some (.int .i64 pa.1) ∧ W.cell? ⟨Bx, 3, none⟩ = some (.int .i64 pa.2) ∧ W.cell? ⟨Bx, 4, none⟩ = some (.int .i64 pb.1) ∧ W.cell? ⟨Bx, 5, none⟩ = some (.int .i64 pb.2) from fun W h =>
      ⟨⟨below_at h rV.lt (rV.cell 0), below_at h rV.lt (rV.cell 1)⟩, below_at h lV.out (below_at BV.out lx c0.out), below_at h lV.out (below_at BV.out lx c1.out), below_at h lV.out (below_at BV.out lx c2.out), below_at h lV.out (below_at BV.out lx c3.out), below_at h lV.out (below_at BV.out lx c4.out), below_at h lV.out (below_at BV.out lx c5.out)⟩)
    obtain ⟨d1, hd1⟩ : ∃ d, dt (i1, i2) (pz.1 - pa.1, pz.2 - pa.2) = d := ⟨_, rfl⟩
    obtain ⟨d2, hd2⟩ : ∃ d, dt (i1, i2) (pb.1 - pa.1, pb.2 - pa.2) = d := ⟨_, rfl⟩
    have DT1 := Lib.hid (fun W => dot_any i1 i2 (pz.1 - pa.1) (pz.2 - pa.2) W (ib.1.mono (by omega)) (ib.2.mono (by omega)) ((n0.1.sub n1.1).mono (by omega)) ((n0.2.sub n1.2).mono (by omega)))
    have DT2 := Lib.hid (fun W => dot_any i1 i2 (pb.1 - pa.1) (pb.2 - pa.2) W (ib.1.mono (by omega)) (ib.2.mono (by omega)) ((n2.1.sub n1.1).mono (by omega)) ((n2.2.sub n1.2).mono (by omega)))
    rw [hd1] at DT1
    rw [hd2] at DT2
    have HTX2 := Lib.hid (show tp x = (decide (0 < d1) && decide (0 < d2)) by rw [HTX.out]; unfold mn; rw [hd1, hd2])
    clear hd1 hd2 HTX rV IW
    obtain ⟨t2, ht2⟩ : ∃ t, decide (0 < d2) = t := ⟨_, rfl⟩
    have HT2 := Lib.hid ht2
    clear ht2
    cases ht1 : decide (0 < d1)
    · have HT1 := Lib.hid ht1
      refine wpIn_region_det2 (by kernel_rfl) (by kernel_rfl) [26, 27, 28, 29, 30, 31, 32, 33, 34, 35, 36, 37, 38, 39, 40, 41, 42, 43] [.agg #[.int .i64 i1, .int .i64 i2], .pointer (some ⟨Bx, 0, none⟩), .agg #[.int .i64 pz.1, .int .i64 pz.2], .pointer (some ⟨Bx, 2, none⟩), .agg #[.int .i64 pa.1, .int .i64 pa.2], .agg #[.int .i64 (pz.1 - pa.1), .int .i64 (pz.2 - pa.2)], .int .i64 d1, .bool false, .bool false, undef, undef, undef, undef, undef, undef, undef, undef, .bool false] (fun W => Below V.heap.size V W) rfl ⟨[undef, undef, undef, undef, undef, undef, undef, undef, undef, undef, undef, undef, undef, undef, undef, undef, undef, undef], by simp only [putAll, Act.put, List.setIfInBounds_toArray, List.set_cons_succ, List.set_cons_zero], rfl⟩ (Below.refl _ _).drew 18 rfl ⟨?_, ?_, ?_, ?_, ?_, ?_, ?_, ?_, ?_, ?_, ?_, ?_, ?_, ?_, ?_, ?_, ?_, ?_, trivial⟩ ?_
      · rintro vs W K hc hvl hw hK
        obtain ⟨x0, x1, x2, x3, x4, x5, x6, x7, x8, x9, x10, x11, x12, x13, x14, x15, x16, x17, rfl⟩ := len18 hvl
        have HK := Lib.hid hK
        have HC := Lib.hid hc
        have HW := Lib.hid hw
        clear hK hc hw hvl
        simp only [putAll, Act.put, List.setIfInBounds_toArray, List.set_cons_succ, List.set_cons_zero]
        obtain ⟨⟨k0, k1⟩, k2, k3, k4, k5, k6, k7⟩ := KK.out W HC.out
        gi_wp2_with fail
        have fin := HK.out W HC.out
        simp only [List.getD_cons_succ, List.getD_cons_zero, putAll, Act.put, List.setIfInBounds_toArray, List.set_cons_succ, List.set_cons_zero] at fin
        exact fin
      · rintro vs W K hc hvl hw hK
        obtain ⟨x0, x1, x2, x3, x4, x5, x6, x7, x8, x9, x10, x11, x12, x13, x14, x15, x16, x17, rfl⟩ := len18 hvl
        have HK := Lib.hid hK
        have HC := Lib.hid hc
        have HW := Lib.hid hw
        clear hK hc hw hvl
        simp only [putAll, Act.put, List.setIfInBounds_toArray, List.set_cons_succ, List.set_cons_zero]
        gi_wp2_with fail
        have fin := HK.out W HC.out
        simp only [List.getD_cons_succ, List.getD_cons_zero, putAll, Act.put, List.setIfInBounds_toArray, List.set_cons_succ, List.set_cons_zero] at fin
        exact fin
      · rintro vs W K hc hvl hw hK
        obtain ⟨x0, x1, x2, x3, x4, x5, x6, x7, x8, x9, x10, x11, x12, x13, x14, x15, x16, x17, rfl⟩ := len18 hvl
        have HK := Lib.hid hK
        have HC := Lib.hid hc
        have HW := Lib.hid hw
        clear hK hc hw hvl
        have D1 := HW.out ⟨1, .data⟩ (by simp) rfl
        simp only [List.getElem?_cons_succ, List.getElem?_cons_zero, Option.some.injEq] at D1
        subst D1
        simp only [putAll, Act.put, List.setIfInBounds_toArray, List.set_cons_succ, List.set_cons_zero]
        obtain ⟨⟨k0, k1⟩, k2, k3, k4, k5, k6, k7⟩ := KK.out W HC.out
        gi_wp2_with fail
        have fin := HK.out W HC.out
        simp only [List.getD_cons_succ, List.getD_cons_zero, putAll, Act.put, List.setIfInBounds_toArray, List.set_cons_succ, List.set_cons_zero] at fin
        exact fin
      · rintro vs W K hc hvl hw hK
        obtain ⟨x0, x1, x2, x3, x4, x5, x6, x7, x8, x9, x10, x11, x12, x13, x14, x15, x16, x17, rfl⟩ := len18 hvl
        have HK := Lib.hid hK
        have HC := Lib.hid hc
        have HW := Lib.hid hw
        clear hK hc hw hvl
        simp only [putAll, Act.put, List.setIfInBounds_toArray, List.set_cons_succ, List.set_cons_zero]
        gi_wp2_with fail
        have fin := HK.out W HC.out
        simp only [List.getD_cons_succ, List.getD_cons_zero, putAll, Act.put, List.setIfInBounds_toArray, List.set_cons_succ, List.set_cons_zero] at fin
        exact fin
      · rintro vs W K hc hvl hw hK
        obtain ⟨x0, x1, x2, x3, x4, x5, x6, x7, x8, x9, x10, x11, x12, x13, x14, x15, x16, x17, rfl⟩ := len18 hvl
        have HK := Lib.hid hK
        have HC := Lib.hid hc
        have HW := Lib.hid hw
        clear hK hc hw hvl
        have D3 := HW.out ⟨3, .data⟩ (by simp) rfl
        simp only [List.getElem?_cons_succ, List.getElem?_cons_zero, Option.some.injEq] at D3
        subst D3
        simp only [putAll, Act.put, List.setIfInBounds_toArray, List.set_cons_succ, List.set_cons_zero]
        obtain ⟨⟨k0, k1⟩, k2, k3, k4, k5, k6, k7⟩ := KK.out W HC.out
        gi_wp2_with fail
        have fin := HK.out W HC.out
        simp only [List.getD_cons_succ, List.getD_cons_zero, putAll, Act.put, List.setIfInBounds_toArray, List.set_cons_succ, List.set_cons_zero] at fin
        exact fin
      · rintro vs W K hc hvl hw hK
        obtain ⟨x0, x1, x2, x3, x4, x5, x6, x7, x8, x9, x10, x11, x12, x13, x14, x15, x16, x17, rfl⟩ := len18 hvl
        have HK := Lib.hid hK
        have HC := Lib.hid hc
        have HW := Lib.hid hw
        clear hK hc hw hvl
        have D2 := HW.out ⟨2, .data⟩ (by simp) rfl
        have D4 := HW.out ⟨4, .data⟩ (by simp) rfl
        simp only [List.getElem?_cons_succ, List.getElem?_cons_zero, Option.some.injEq] at D2 D4
        subst D2
        subst D4
        simp only [putAll, Act.put, List.setIfInBounds_toArray, List.set_cons_succ, List.set_cons_zero]
        gi_wp2_with fail
        refine ⟨trivial, ?_⟩
        refine (CallsIn.inRound l (callsIn_wide.2 (minus_any pz.1 pz.2 pa.1 pa.2 W (n0.1.mono (by omega)) (n0.2.mono (by omega)) (n1.1.mono (by omega)) (n1.2.mono (by omega))))).mono ?_
        rintro e W' ⟨rfl, hb'⟩
        have HB' := Lib.hid (Below.andThen HC.out hb' (Nat.le_refl _))
        clear hb'
        gi_wp2_with fail
        have fin := HK.out W' HB'.out
        simp only [List.getD_cons_succ, List.getD_cons_zero, putAll, Act.put, List.setIfInBounds_toArray, List.set_cons_succ, List.set_cons_zero] at fin
        exact fin
      · rintro vs W K hc hvl hw hK
        obtain ⟨x0, x1, x2, x3, x4, x5, x6, x7, x8, x9, x10, x11, x12, x13, x14, x15, x16, x17, rfl⟩ := len18 hvl
        have HK := Lib.hid hK
        have HC := Lib.hid hc
        have HW := Lib.hid hw
        clear hK hc hw hvl
        have D0 := HW.out ⟨0, .data⟩ (by simp) rfl
        have D5 := HW.out ⟨5, .data⟩ (by simp) rfl
        simp only [List.getElem?_cons_succ, List.getElem?_cons_zero, Option.some.injEq] at D0 D5
        subst D0
        subst D5
        simp only [putAll, Act.put, List.setIfInBounds_toArray, List.set_cons_succ, List.set_cons_zero]
        gi_wp2_with fail
        refine ⟨trivial, ?_⟩
        refine (CallsIn.inRound l (callsIn_wide.2 (DT1.out W))).mono ?_
        rintro e W' ⟨rfl, hb'⟩
        have HB' := Lib.hid (Below.andThen HC.out hb' (Nat.le_refl _))
        clear hb'
        gi_wp2_with fail
        have fin := HK.out W' HB'.out
        simp only [List.getD_cons_succ, List.getD_cons_zero, putAll, Act.put, List.setIfInBounds_toArray, List.set_cons_succ, List.set_cons_zero] at fin
        exact fin
      · rintro vs W K hc hvl hw hK
        obtain ⟨x0, x1, x2, x3, x4, x5, x6, x7, x8, x9, x10, x11, x12, x13, x14, x15, x16, x17, rfl⟩ := len18 hvl
        have HK := Lib.hid hK
        have HC := Lib.hid hc
        have HW := Lib.hid hw
        clear hK hc hw hvl
        have D6 := HW.out ⟨6, .data⟩ (by simp) rfl
        simp only [List.getElem?_cons_succ, List.getElem?_cons_zero, Option.some.injEq] at D6
        subst D6
        simp only [putAll, Act.put, List.setIfInBounds_toArray, List.set_cons_succ, List.set_cons_zero]
        have hdd := HT1.out
        gi_wp2_with fail
        have fin := HK.out W HC.out
        simp only [List.getD_cons_succ, List.getD_cons_zero, putAll, Act.put, List.setIfInBounds_toArray, List.set_cons_succ, List.set_cons_zero] at fin
        exact fin
      · rintro vs W K hc hvl hw hK
        obtain ⟨x0, x1, x2, x3, x4, x5, x6, x7, x8, x9, x10, x11, x12, x13, x14, x15, x16, x17, rfl⟩ := len18 hvl
        have HK := Lib.hid hK
        have HC := Lib.hid hc
        have HW := Lib.hid hw
        clear hK hc hw hvl
        have D7 := HW.out ⟨7, .data⟩ (by simp) rfl
        simp only [List.getElem?_cons_succ, List.getElem?_cons_zero, Option.some.injEq] at D7
        subst D7
        simp only [putAll, Act.put, List.setIfInBounds_toArray, List.set_cons_succ, List.set_cons_zero]
        gi_wp2_with fail
        have fin := HK.out W HC.out
        simp only [List.getD_cons_succ, List.getD_cons_zero, putAll, Act.put, List.setIfInBounds_toArray, List.set_cons_succ, List.set_cons_zero] at fin
        exact fin
      · rintro vs W K hc hvl hw hK
        obtain ⟨x0, x1, x2, x3, x4, x5, x6, x7, x8, x9, x10, x11, x12, x13, x14, x15, x16, x17, rfl⟩ := len18 hvl
        have HK := Lib.hid hK
        have HC := Lib.hid hc
        have HW := Lib.hid hw
        clear hK hc hw hvl
        have D8 := HW.out ⟨8, .guard⟩ (by simp) rfl
        simp only [List.getElem?_cons_succ, List.getElem?_cons_zero, Option.some.injEq] at D8
        subst D8
        simp only [putAll, Act.put, List.setIfInBounds_toArray, List.set_cons_succ, List.set_cons_zero]
        gi_wp2_with fail
        have fin := HK.out W HC.out
        simp only [List.getD_cons_succ, List.getD_cons_zero, putAll, Act.put, List.setIfInBounds_toArray, List.set_cons_succ, List.set_cons_zero] at fin
        exact fin
      · rintro vs W K hc hvl hw hK
        obtain ⟨x0, x1, x2, x3, x4, x5, x6, x7, x8, x9, x10, x11, x12, x13, x14, x15, x16, x17, rfl⟩ := len18 hvl
        have HK := Lib.hid hK
        have HC := Lib.hid hc
        have HW := Lib.hid hw
        clear hK hc hw hvl
        have D8 := HW.out ⟨8, .guard⟩ (by simp) rfl
        simp only [List.getElem?_cons_succ, List.getElem?_cons_zero, Option.some.injEq] at D8
        subst D8
        simp only [putAll, Act.put, List.setIfInBounds_toArray, List.set_cons_succ, List.set_cons_zero]
        gi_wp2_with fail
        have fin := HK.out W HC.out
        simp only [List.getD_cons_succ, List.getD_cons_zero, putAll, Act.put, List.setIfInBounds_toArray, List.set_cons_succ, List.set_cons_zero] at fin
        exact fin
      · rintro vs W K hc hvl hw hK
        obtain ⟨x0, x1, x2, x3, x4, x5, x6, x7, x8, x9, x10, x11, x12, x13, x14, x15, x16, x17, rfl⟩ := len18 hvl
        have HK := Lib.hid hK
        have HC := Lib.hid hc
        have HW := Lib.hid hw
        clear hK hc hw hvl
        have D10 := HW.out ⟨10, .data⟩ (by simp) rfl
        have D8 := HW.out ⟨8, .guard⟩ (by simp) rfl
        simp only [List.getElem?_cons_succ, List.getElem?_cons_zero, Option.some.injEq] at D10 D8
        subst D10
        subst D8
        simp only [putAll, Act.put, List.setIfInBounds_toArray, List.set_cons_succ, List.set_cons_zero]
        gi_wp2_with fail
        have fin := HK.out W HC.out
        simp only [List.getD_cons_succ, List.getD_cons_zero, putAll, Act.put, List.setIfInBounds_toArray, List.set_cons_succ, List.set_cons_zero] at fin
        exact fin
      · rintro vs W K hc hvl hw hK
        obtain ⟨x0, x1, x2, x3, x4, x5, x6, x7, x8, x9, x10, x11, x12, x13, x14, x15, x16, x17, rfl⟩ := len18 hvl
        have HK := Lib.hid hK
        have HC := Lib.hid hc
        have HW := Lib.hid hw
        clear hK hc hw hvl
        have D8 := HW.out ⟨8, .guard⟩ (by simp) rfl
        simp only [List.getElem?_cons_succ, List.getElem?_cons_zero, Option.some.injEq] at D8
        subst D8
        simp only [putAll, Act.put, List.setIfInBounds_toArray, List.set_cons_succ, List.set_cons_zero]
        gi_wp2_with fail
        have fin := HK.out W HC.out
        simp only [List.getD_cons_succ, List.getD_cons_zero, putAll, Act.put, List.setIfInBounds_toArray, List.set_cons_succ, List.set_cons_zero] at fin
        exact fin
      · rintro vs W K hc hvl hw hK
        obtain ⟨x0, x1, x2, x3, x4, x5, x6, x7, x8, x9, x10, x11, x12, x13, x14, x15, x16, x17, rfl⟩ := len18 hvl
        have HK := Lib.hid hK
        have HC := Lib.hid hc
        have HW := Lib.hid hw
        clear hK hc hw hvl
        have D12 := HW.out ⟨12, .data⟩ (by simp) rfl
        have D8 := HW.out ⟨8, .guard⟩ (by simp) rfl
        simp only [List.getElem?_cons_succ, List.getElem?_cons_zero, Option.some.injEq] at D12 D8
        subst D12
        subst D8
        simp only [putAll, Act.put, List.setIfInBounds_toArray, List.set_cons_succ, List.set_cons_zero]
        gi_wp2_with fail
        have fin := HK.out W HC.out
        simp only [List.getD_cons_succ, List.getD_cons_zero, putAll, Act.put, List.setIfInBounds_toArray, List.set_cons_succ, List.set_cons_zero] at fin
        exact fin
      · rintro vs W K hc hvl hw hK
        obtain ⟨x0, x1, x2, x3, x4, x5, x6, x7, x8, x9, x10, x11, x12, x13, x14, x15, x16, x17, rfl⟩ := len18 hvl
        have HK := Lib.hid hK
        have HC := Lib.hid hc
        have HW := Lib.hid hw
        clear hK hc hw hvl
        have D11 := HW.out ⟨11, .data⟩ (by simp) rfl
        have D13 := HW.out ⟨13, .data⟩ (by simp) rfl
        have D8 := HW.out ⟨8, .guard⟩ (by simp) rfl
        simp only [List.getElem?_cons_succ, List.getElem?_cons_zero, Option.some.injEq] at D11 D13 D8
        subst D11
        subst D13
        subst D8
        simp only [putAll, Act.put, List.setIfInBounds_toArray, List.set_cons_succ, List.set_cons_zero]
        gi_wp2_with fail
        refine ⟨trivial, ?_⟩
        gi_wp2_with fail
        have fin := HK.out W HC.out
        simp only [List.getD_cons_succ, List.getD_cons_zero, putAll, Act.put, List.setIfInBounds_toArray, List.set_cons_succ, List.set_cons_zero] at fin
        exact fin
      · rintro vs W K hc hvl hw hK
        obtain ⟨x0, x1, x2, x3, x4, x5, x6, x7, x8, x9, x10, x11, x12, x13, x14, x15, x16, x17, rfl⟩ := len18 hvl
        have HK := Lib.hid hK
        have HC := Lib.hid hc
        have HW := Lib.hid hw
        clear hK hc hw hvl
        have D9 := HW.out ⟨9, .data⟩ (by simp) rfl
        have D14 := HW.out ⟨14, .data⟩ (by simp) rfl
        have D8 := HW.out ⟨8, .guard⟩ (by simp) rfl
        simp only [List.getElem?_cons_succ, List.getElem?_cons_zero, Option.some.injEq] at D9 D14 D8
        subst D9
        subst D14
        subst D8
        simp only [putAll, Act.put, List.setIfInBounds_toArray, List.set_cons_succ, List.set_cons_zero]
        gi_wp2_with fail
        refine ⟨trivial, ?_⟩
        gi_wp2_with fail
        have fin := HK.out W HC.out
        simp only [List.getD_cons_succ, List.getD_cons_zero, putAll, Act.put, List.setIfInBounds_toArray, List.set_cons_succ, List.set_cons_zero] at fin
        exact fin
      · rintro vs W K hc hvl hw hK
        obtain ⟨x0, x1, x2, x3, x4, x5, x6, x7, x8, x9, x10, x11, x12, x13, x14, x15, x16, x17, rfl⟩ := len18 hvl
        have HK := Lib.hid hK
        have HC := Lib.hid hc
        have HW := Lib.hid hw
        clear hK hc hw hvl
        have D15 := HW.out ⟨15, .data⟩ (by simp) rfl
        have D8 := HW.out ⟨8, .guard⟩ (by simp) rfl
        simp only [List.getElem?_cons_succ, List.getElem?_cons_zero, Option.some.injEq] at D15 D8
        subst D15
        subst D8
        simp only [putAll, Act.put, List.setIfInBounds_toArray, List.set_cons_succ, List.set_cons_zero]
        gi_wp2_with fail
        have fin := HK.out W HC.out
        simp only [List.getD_cons_succ, List.getD_cons_zero, putAll, Act.put, List.setIfInBounds_toArray, List.set_cons_succ, List.set_cons_zero] at fin
        exact fin
      · rintro vs W K hc hvl hw hK
        obtain ⟨x0, x1, x2, x3, x4, x5, x6, x7, x8, x9, x10, x11, x12, x13, x14, x15, x16, x17, rfl⟩ := len18 hvl
        have HK := Lib.hid hK
        have HC := Lib.hid hc
        have HW := Lib.hid hw
        clear hK hc hw hvl
        have D8 := HW.out ⟨8, .data⟩ (by simp) rfl
        have D16 := HW.out ⟨16, .data⟩ (by simp) rfl
        simp only [List.getElem?_cons_succ, List.getElem?_cons_zero, Option.some.injEq] at D8 D16
        subst D8
        subst D16
        simp only [putAll, Act.put, List.setIfInBounds_toArray, List.set_cons_succ, List.set_cons_zero]
        gi_wp2_with fail
        have fin := HK.out W HC.out
        simp only [List.getD_cons_succ, List.getD_cons_zero, putAll, Act.put, List.setIfInBounds_toArray, List.set_cons_succ, List.set_cons_zero] at fin
        exact fin
      · intro W hc
        simp only [putAll, Act.put, List.setIfInBounds_toArray, List.set_cons_succ, List.set_cons_zero]
        have HC := Lib.hid hc
        clear hc
        have BQ := Lib.hid (Below.andThen BV.out HC.out (Nat.le_refl _))
        have HFI := Lib.hid (show (pre ++ [x]).filter tp = pre.filter tp by rw [List.filter_append, List.filter_cons, HTX2.out, HT1.out]; simp)
        gi_wp2_with fail
        refine ⟨KeepsFrom.of_grownBy (row := none) ⟨BQ.out.os, BQ.out.tape, BQ.out.output, BQ.out.size, fun k hk _ => BQ.out.block k hk⟩ (fun r e => by cases e), Keeps2.of_below BQ.out hbl2 (by have := FA.out; have := LB.out; omega), ⟨⟨vA, ?_⟩, ?_, ?_⟩, HB.out.trans (BQ.out.mono hn0)⟩
        · rw [HFI.out, HZ.out]; exact AA.out.below BQ.out
        · exact (BQ.out.block _ (by have := FA.out; have := LB.out; omega)).trans HBS.out
        · exact HRB.out.below BQ.out LB.out
    · have HT1 := Lib.hid ht1
      refine wpIn_region_det2 (by kernel_rfl) (by kernel_rfl) [26, 27, 28, 29, 30, 31, 32, 33, 34, 35, 36, 37, 38, 39, 40, 41, 42, 43] [.agg #[.int .i64 i1, .int .i64 i2], .pointer (some ⟨Bx, 0, none⟩), .agg #[.int .i64 pz.1, .int .i64 pz.2], .pointer (some ⟨Bx, 2, none⟩), .agg #[.int .i64 pa.1, .int .i64 pa.2], .agg #[.int .i64 (pz.1 - pa.1), .int .i64 (pz.2 - pa.2)], .int .i64 d1, .bool true, .bool true, .agg #[.int .i64 i1, .int .i64 i2], .pointer (some ⟨Bx, 4, none⟩), .agg #[.int .i64 pb.1, .int .i64 pb.2], .pointer (some ⟨Bx, 2, none⟩), .agg #[.int .i64 pa.1, .int .i64 pa.2], .agg #[.int .i64 (pb.1 - pa.1), .int .i64 (pb.2 - pa.2)], .int .i64 d2, .bool t2, .bool t2] (fun W => Below V.heap.size V W) rfl ⟨[undef, undef, undef, undef, undef, undef, undef, undef, undef, undef, undef, undef, undef, undef, undef, undef, undef, undef], by simp only [putAll, Act.put, List.setIfInBounds_toArray, List.set_cons_succ, List.set_cons_zero], rfl⟩ (Below.refl _ _).drew 18 rfl ⟨?_, ?_, ?_, ?_, ?_, ?_, ?_, ?_, ?_, ?_, ?_, ?_, ?_, ?_, ?_, ?_, ?_, ?_, trivial⟩ ?_
      · rintro vs W K hc hvl hw hK
        obtain ⟨x0, x1, x2, x3, x4, x5, x6, x7, x8, x9, x10, x11, x12, x13, x14, x15, x16, x17, rfl⟩ := len18 hvl
        have HK := Lib.hid hK
        have HC := Lib.hid hc
        have HW := Lib.hid hw
        clear hK hc hw hvl
        simp only [putAll, Act.put, List.setIfInBounds_toArray, List.set_cons_succ, List.set_cons_zero]
        obtain ⟨⟨k0, k1⟩, k2, k3, k4, k5, k6, k7⟩ := KK.out W HC.out
        gi_wp2_with fail
        have fin := HK.out W HC.out
        simp only [List.getD_cons_succ, List.getD_cons_zero, putAll, Act.put, List.setIfInBounds_toArray, List.set_cons_succ, List.set_cons_zero] at fin
        exact fin
      · rintro vs W K hc hvl hw hK
        obtain ⟨x0, x1, x2, x3, x4, x5, x6, x7, x8, x9, x10, x11, x12, x13, x14, x15, x16, x17, rfl⟩ := len18 hvl
        have HK := Lib.hid hK
        have HC := Lib.hid hc
        have HW := Lib.hid hw
        clear hK hc hw hvl
        simp only [putAll, Act.put, List.setIfInBounds_toArray, List.set_cons_succ, List.set_cons_zero]
        gi_wp2_with fail
        have fin := HK.out W HC.out
        simp only [List.getD_cons_succ, List.getD_cons_zero, putAll, Act.put, List.setIfInBounds_toArray, List.set_cons_succ, List.set_cons_zero] at fin
        exact fin
      · rintro vs W K hc hvl hw hK
        obtain ⟨x0, x1, x2, x3, x4, x5, x6, x7, x8, x9, x10, x11, x12, x13, x14, x15, x16, x17, rfl⟩ := len18 hvl
        have HK := Lib.hid hK
        have HC := Lib.hid hc
        have HW := Lib.hid hw
        clear hK hc hw hvl
        have D1 := HW.out ⟨1, .data⟩ (by simp) rfl
        simp only [List.getElem?_cons_succ, List.getElem?_cons_zero, Option.some.injEq] at D1
        subst D1
        simp only [putAll, Act.put, List.setIfInBounds_toArray, List.set_cons_succ, List.set_cons_zero]
        obtain ⟨⟨k0, k1⟩, k2, k3, k4, k5, k6, k7⟩ := KK.out W HC.out
        gi_wp2_with fail
        have fin := HK.out W HC.out
        simp only [List.getD_cons_succ, List.getD_cons_zero, putAll, Act.put, List.setIfInBounds_toArray, List.set_cons_succ, List.set_cons_zero] at fin
        exact fin
      · rintro vs W K hc hvl hw hK
        obtain ⟨x0, x1, x2, x3, x4, x5, x6, x7, x8, x9, x10, x11, x12, x13, x14, x15, x16, x17, rfl⟩ := len18 hvl
        have HK := Lib.hid hK
        have HC := Lib.hid hc
        have HW := Lib.hid hw
        clear hK hc hw hvl
        simp only [putAll, Act.put, List.setIfInBounds_toArray, List.set_cons_succ, List.set_cons_zero]
        gi_wp2_with fail
        have fin := HK.out W HC.out
        simp only [List.getD_cons_succ, List.getD_cons_zero, putAll, Act.put, List.setIfInBounds_toArray, List.set_cons_succ, List.set_cons_zero] at fin
        exact fin
      · rintro vs W K hc hvl hw hK
        obtain ⟨x0, x1, x2, x3, x4, x5, x6, x7, x8, x9, x10, x11, x12, x13, x14, x15, x16, x17, rfl⟩ := len18 hvl
        have HK := Lib.hid hK
        have HC := Lib.hid hc
        have HW := Lib.hid hw
        clear hK hc hw hvl
        have D3 := HW.out ⟨3, .data⟩ (by simp) rfl
        simp only [List.getElem?_cons_succ, List.getElem?_cons_zero, Option.some.injEq] at D3
        subst D3
        simp only [putAll, Act.put, List.setIfInBounds_toArray, List.set_cons_succ, List.set_cons_zero]
        obtain ⟨⟨k0, k1⟩, k2, k3, k4, k5, k6, k7⟩ := KK.out W HC.out
        gi_wp2_with fail
        have fin := HK.out W HC.out
        simp only [List.getD_cons_succ, List.getD_cons_zero, putAll, Act.put, List.setIfInBounds_toArray, List.set_cons_succ, List.set_cons_zero] at fin
        exact fin
      · rintro vs W K hc hvl hw hK
        obtain ⟨x0, x1, x2, x3, x4, x5, x6, x7, x8, x9, x10, x11, x12, x13, x14, x15, x16, x17, rfl⟩ := len18 hvl
        have HK := Lib.hid hK
        have HC := Lib.hid hc
        have HW := Lib.hid hw
        clear hK hc hw hvl
        have D2 := HW.out ⟨2, .data⟩ (by simp) rfl
        have D4 := HW.out ⟨4, .data⟩ (by simp) rfl
        simp only [List.getElem?_cons_succ, List.getElem?_cons_zero, Option.some.injEq] at D2 D4
        subst D2
        subst D4
        simp only [putAll, Act.put, List.setIfInBounds_toArray, List.set_cons_succ, List.set_cons_zero]
        gi_wp2_with fail
        refine ⟨trivial, ?_⟩
        refine (CallsIn.inRound l (callsIn_wide.2 (minus_any pz.1 pz.2 pa.1 pa.2 W (n0.1.mono (by omega)) (n0.2.mono (by omega)) (n1.1.mono (by omega)) (n1.2.mono (by omega))))).mono ?_
        rintro e W' ⟨rfl, hb'⟩
        have HB' := Lib.hid (Below.andThen HC.out hb' (Nat.le_refl _))
        clear hb'
        gi_wp2_with fail
        have fin := HK.out W' HB'.out
        simp only [List.getD_cons_succ, List.getD_cons_zero, putAll, Act.put, List.setIfInBounds_toArray, List.set_cons_succ, List.set_cons_zero] at fin
        exact fin
      · rintro vs W K hc hvl hw hK
        obtain ⟨x0, x1, x2, x3, x4, x5, x6, x7, x8, x9, x10, x11, x12, x13, x14, x15, x16, x17, rfl⟩ := len18 hvl
        have HK := Lib.hid hK
        have HC := Lib.hid hc
        have HW := Lib.hid hw
        clear hK hc hw hvl
        have D0 := HW.out ⟨0, .data⟩ (by simp) rfl
        have D5 := HW.out ⟨5, .data⟩ (by simp) rfl
        simp only [List.getElem?_cons_succ, List.getElem?_cons_zero, Option.some.injEq] at D0 D5
        subst D0
        subst D5
        simp only [putAll, Act.put, List.setIfInBounds_toArray, List.set_cons_succ, List.set_cons_zero]
        gi_wp2_with fail
        refine ⟨trivial, ?_⟩
        refine (CallsIn.inRound l (callsIn_wide.2 (DT1.out W))).mono ?_
        rintro e W' ⟨rfl, hb'⟩
        have HB' := Lib.hid (Below.andThen HC.out hb' (Nat.le_refl _))
        clear hb'
        gi_wp2_with fail
        have fin := HK.out W' HB'.out
        simp only [List.getD_cons_succ, List.getD_cons_zero, putAll, Act.put, List.setIfInBounds_toArray, List.set_cons_succ, List.set_cons_zero] at fin
        exact fin
      · rintro vs W K hc hvl hw hK
        obtain ⟨x0, x1, x2, x3, x4, x5, x6, x7, x8, x9, x10, x11, x12, x13, x14, x15, x16, x17, rfl⟩ := len18 hvl
        have HK := Lib.hid hK
        have HC := Lib.hid hc
        have HW := Lib.hid hw
        clear hK hc hw hvl
        have D6 := HW.out ⟨6, .data⟩ (by simp) rfl
        simp only [List.getElem?_cons_succ, List.getElem?_cons_zero, Option.some.injEq] at D6
        subst D6
        simp only [putAll, Act.put, List.setIfInBounds_toArray, List.set_cons_succ, List.set_cons_zero]
        have hdd := HT1.out
        gi_wp2_with fail
        have fin := HK.out W HC.out
        simp only [List.getD_cons_succ, List.getD_cons_zero, putAll, Act.put, List.setIfInBounds_toArray, List.set_cons_succ, List.set_cons_zero] at fin
        exact fin
      · rintro vs W K hc hvl hw hK
        obtain ⟨x0, x1, x2, x3, x4, x5, x6, x7, x8, x9, x10, x11, x12, x13, x14, x15, x16, x17, rfl⟩ := len18 hvl
        have HK := Lib.hid hK
        have HC := Lib.hid hc
        have HW := Lib.hid hw
        clear hK hc hw hvl
        have D7 := HW.out ⟨7, .data⟩ (by simp) rfl
        simp only [List.getElem?_cons_succ, List.getElem?_cons_zero, Option.some.injEq] at D7
        subst D7
        simp only [putAll, Act.put, List.setIfInBounds_toArray, List.set_cons_succ, List.set_cons_zero]
        gi_wp2_with fail
        have fin := HK.out W HC.out
        simp only [List.getD_cons_succ, List.getD_cons_zero, putAll, Act.put, List.setIfInBounds_toArray, List.set_cons_succ, List.set_cons_zero] at fin
        exact fin
      · rintro vs W K hc hvl hw hK
        obtain ⟨x0, x1, x2, x3, x4, x5, x6, x7, x8, x9, x10, x11, x12, x13, x14, x15, x16, x17, rfl⟩ := len18 hvl
        have HK := Lib.hid hK
        have HC := Lib.hid hc
        have HW := Lib.hid hw
        clear hK hc hw hvl
        have D8 := HW.out ⟨8, .guard⟩ (by simp) rfl
        simp only [List.getElem?_cons_succ, List.getElem?_cons_zero, Option.some.injEq] at D8
        subst D8
        simp only [putAll, Act.put, List.setIfInBounds_toArray, List.set_cons_succ, List.set_cons_zero]
        obtain ⟨⟨k0, k1⟩, k2, k3, k4, k5, k6, k7⟩ := KK.out W HC.out
        gi_wp2_with fail
        have fin := HK.out W HC.out
        simp only [List.getD_cons_succ, List.getD_cons_zero, putAll, Act.put, List.setIfInBounds_toArray, List.set_cons_succ, List.set_cons_zero] at fin
        exact fin
      · rintro vs W K hc hvl hw hK
        obtain ⟨x0, x1, x2, x3, x4, x5, x6, x7, x8, x9, x10, x11, x12, x13, x14, x15, x16, x17, rfl⟩ := len18 hvl
        have HK := Lib.hid hK
        have HC := Lib.hid hc
        have HW := Lib.hid hw
        clear hK hc hw hvl
        have D8 := HW.out ⟨8, .guard⟩ (by simp) rfl
        simp only [List.getElem?_cons_succ, List.getElem?_cons_zero, Option.some.injEq] at D8
        subst D8
        simp only [putAll, Act.put, List.setIfInBounds_toArray, List.set_cons_succ, List.set_cons_zero]
        gi_wp2_with fail
        have fin := HK.out W HC.out
        simp only [List.getD_cons_succ, List.getD_cons_zero, putAll, Act.put, List.setIfInBounds_toArray, List.set_cons_succ, List.set_cons_zero] at fin
        exact fin
      · rintro vs W K hc hvl hw hK
        obtain ⟨x0, x1, x2, x3, x4, x5, x6, x7, x8, x9, x10, x11, x12, x13, x14, x15, x16, x17, rfl⟩ := len18 hvl
        have HK := Lib.hid hK
        have HC := Lib.hid hc
        have HW := Lib.hid hw
        clear hK hc hw hvl
        have D10 := HW.out ⟨10, .data⟩ (by simp) rfl
        have D8 := HW.out ⟨8, .guard⟩ (by simp) rfl
        simp only [List.getElem?_cons_succ, List.getElem?_cons_zero, Option.some.injEq] at D10 D8
        subst D10
        subst D8
        simp only [putAll, Act.put, List.setIfInBounds_toArray, List.set_cons_succ, List.set_cons_zero]
        obtain ⟨⟨k0, k1⟩, k2, k3, k4, k5, k6, k7⟩ := KK.out W HC.out
        gi_wp2_with fail
        have fin := HK.out W HC.out
        simp only [List.getD_cons_succ, List.getD_cons_zero, putAll, Act.put, List.setIfInBounds_toArray, List.set_cons_succ, List.set_cons_zero] at fin
        exact fin
      · rintro vs W K hc hvl hw hK
        obtain ⟨x0, x1, x2, x3, x4, x5, x6, x7, x8, x9, x10, x11, x12, x13, x14, x15, x16, x17, rfl⟩ := len18 hvl
        have HK := Lib.hid hK
        have HC := Lib.hid hc
        have HW := Lib.hid hw
        clear hK hc hw hvl
        have D8 := HW.out ⟨8, .guard⟩ (by simp) rfl
        simp only [List.getElem?_cons_succ, List.getElem?_cons_zero, Option.some.injEq] at D8
        subst D8
        simp only [putAll, Act.put, List.setIfInBounds_toArray, List.set_cons_succ, List.set_cons_zero]
        gi_wp2_with fail
        have fin := HK.out W HC.out
        simp only [List.getD_cons_succ, List.getD_cons_zero, putAll, Act.put, List.setIfInBounds_toArray, List.set_cons_succ, List.set_cons_zero] at fin
        exact fin
      · rintro vs W K hc hvl hw hK
        obtain ⟨x0, x1, x2, x3, x4, x5, x6, x7, x8, x9, x10, x11, x12, x13, x14, x15, x16, x17, rfl⟩ := len18 hvl
        have HK := Lib.hid hK
        have HC := Lib.hid hc
        have HW := Lib.hid hw
        clear hK hc hw hvl
        have D12 := HW.out ⟨12, .data⟩ (by simp) rfl
        have D8 := HW.out ⟨8, .guard⟩ (by simp) rfl
        simp only [List.getElem?_cons_succ, List.getElem?_cons_zero, Option.some.injEq] at D12 D8
        subst D12
        subst D8
        simp only [putAll, Act.put, List.setIfInBounds_toArray, List.set_cons_succ, List.set_cons_zero]
        obtain ⟨⟨k0, k1⟩, k2, k3, k4, k5, k6, k7⟩ := KK.out W HC.out
        gi_wp2_with fail
        have fin := HK.out W HC.out
        simp only [List.getD_cons_succ, List.getD_cons_zero, putAll, Act.put, List.setIfInBounds_toArray, List.set_cons_succ, List.set_cons_zero] at fin
        exact fin
      · rintro vs W K hc hvl hw hK
        obtain ⟨x0, x1, x2, x3, x4, x5, x6, x7, x8, x9, x10, x11, x12, x13, x14, x15, x16, x17, rfl⟩ := len18 hvl
        have HK := Lib.hid hK
        have HC := Lib.hid hc
        have HW := Lib.hid hw
        clear hK hc hw hvl
        have D11 := HW.out ⟨11, .data⟩ (by simp) rfl
        have D13 := HW.out ⟨13, .data⟩ (by simp) rfl
        have D8 := HW.out ⟨8, .guard⟩ (by simp) rfl
        simp only [List.getElem?_cons_succ, List.getElem?_cons_zero, Option.some.injEq] at D11 D13 D8
        subst D11
        subst D13
        subst D8
        simp only [putAll, Act.put, List.setIfInBounds_toArray, List.set_cons_succ, List.set_cons_zero]
        gi_wp2_with fail
        refine ⟨trivial, ?_⟩
        refine (CallsIn.inRound l (callsIn_wide.2 (minus_any pb.1 pb.2 pa.1 pa.2 W (n2.1.mono (by omega)) (n2.2.mono (by omega)) (n1.1.mono (by omega)) (n1.2.mono (by omega))))).mono ?_
        rintro e W' ⟨rfl, hb'⟩
        have HB' := Lib.hid (Below.andThen HC.out hb' (Nat.le_refl _))
        clear hb'
        gi_wp2_with fail
        have fin := HK.out W' HB'.out
        simp only [List.getD_cons_succ, List.getD_cons_zero, putAll, Act.put, List.setIfInBounds_toArray, List.set_cons_succ, List.set_cons_zero] at fin
        exact fin
      · rintro vs W K hc hvl hw hK
        obtain ⟨x0, x1, x2, x3, x4, x5, x6, x7, x8, x9, x10, x11, x12, x13, x14, x15, x16, x17, rfl⟩ := len18 hvl
        have HK := Lib.hid hK
        have HC := Lib.hid hc
        have HW := Lib.hid hw
        clear hK hc hw hvl
        have D9 := HW.out ⟨9, .data⟩ (by simp) rfl
        have D14 := HW.out ⟨14, .data⟩ (by simp) rfl
        have D8 := HW.out ⟨8, .guard⟩ (by simp) rfl
        simp only [List.getElem?_cons_succ, List.getElem?_cons_zero, Option.some.injEq] at D9 D14 D8
        subst D9
        subst D14
        subst D8
        simp only [putAll, Act.put, List.setIfInBounds_toArray, List.set_cons_succ, List.set_cons_zero]
        gi_wp2_with fail
        refine ⟨trivial, ?_⟩
        refine (CallsIn.inRound l (callsIn_wide.2 (DT2.out W))).mono ?_
        rintro e W' ⟨rfl, hb'⟩
        have HB' := Lib.hid (Below.andThen HC.out hb' (Nat.le_refl _))
        clear hb'
        gi_wp2_with fail
        have fin := HK.out W' HB'.out
        simp only [List.getD_cons_succ, List.getD_cons_zero, putAll, Act.put, List.setIfInBounds_toArray, List.set_cons_succ, List.set_cons_zero] at fin
        exact fin
      · rintro vs W K hc hvl hw hK
        obtain ⟨x0, x1, x2, x3, x4, x5, x6, x7, x8, x9, x10, x11, x12, x13, x14, x15, x16, x17, rfl⟩ := len18 hvl
        have HK := Lib.hid hK
        have HC := Lib.hid hc
        have HW := Lib.hid hw
        clear hK hc hw hvl
        have D15 := HW.out ⟨15, .data⟩ (by simp) rfl
        have D8 := HW.out ⟨8, .guard⟩ (by simp) rfl
        simp only [List.getElem?_cons_succ, List.getElem?_cons_zero, Option.some.injEq] at D15 D8
        subst D15
        subst D8
        simp only [putAll, Act.put, List.setIfInBounds_toArray, List.set_cons_succ, List.set_cons_zero]
        have hdd := HT2.out
        gi_wp2_with fail
        have fin := HK.out W HC.out
        simp only [List.getD_cons_succ, List.getD_cons_zero, putAll, Act.put, List.setIfInBounds_toArray, List.set_cons_succ, List.set_cons_zero] at fin
        exact fin
      · rintro vs W K hc hvl hw hK
        obtain ⟨x0, x1, x2, x3, x4, x5, x6, x7, x8, x9, x10, x11, x12, x13, x14, x15, x16, x17, rfl⟩ := len18 hvl
        have HK := Lib.hid hK
        have HC := Lib.hid hc
        have HW := Lib.hid hw
        clear hK hc hw hvl
        have D8 := HW.out ⟨8, .data⟩ (by simp) rfl
        have D16 := HW.out ⟨16, .data⟩ (by simp) rfl
        simp only [List.getElem?_cons_succ, List.getElem?_cons_zero, Option.some.injEq] at D8 D16
        subst D8
        subst D16
        simp only [putAll, Act.put, List.setIfInBounds_toArray, List.set_cons_succ, List.set_cons_zero]
        gi_wp2_with fail
        have fin := HK.out W HC.out
        simp only [List.getD_cons_succ, List.getD_cons_zero, putAll, Act.put, List.setIfInBounds_toArray, List.set_cons_succ, List.set_cons_zero] at fin
        exact fin
      · intro W hc
        simp only [putAll, Act.put, List.setIfInBounds_toArray, List.set_cons_succ, List.set_cons_zero]
        have HC := Lib.hid hc
        clear hc
        cases t2
        · have BQ := Lib.hid (Below.andThen BV.out HC.out (Nat.le_refl _))
          have HFI := Lib.hid (show (pre ++ [x]).filter tp = pre.filter tp by rw [List.filter_append, List.filter_cons, HTX2.out, HT1.out, HT2.out]; simp)
          gi_wp2_with fail
          refine ⟨KeepsFrom.of_grownBy (row := none) ⟨BQ.out.os, BQ.out.tape, BQ.out.output, BQ.out.size, fun k hk _ => BQ.out.block k hk⟩ (fun r e => by cases e), Keeps2.of_below BQ.out hbl2 (by have := FA.out; have := LB.out; omega), ⟨⟨vA, ?_⟩, ?_, ?_⟩, HB.out.trans (BQ.out.mono hn0)⟩
          · rw [HFI.out, HZ.out]; exact AA.out.below BQ.out
          · exact (BQ.out.block _ (by have := FA.out; have := LB.out; omega)).trans HBS.out
          · exact HRB.out.below BQ.out LB.out
        · have ht2 := HT2.out
          have BQ := Lib.hid (Below.andThen BV.out HC.out (Nat.le_refl _))
          have HFI := Lib.hid (show ((pre ++ [x]).filter tp).map Int.ofNat = z ++ [(x : Int)] by rw [List.filter_append, List.filter_cons, HTX2.out, HT1.out, HT2.out, List.map_append, HZ.out]; rfl)
          have BT := Lib.hid (show Below Wr.heap.size Wr (W.alloc (.cells #[.int .i64 (x : Int)] 3)) from Below.al BQ.out (Nat.le_refl _) _)
          have hnT := Lib.hid (Nat.le_trans hn0 BT.out.size)
          have AT := Lib.hid (AA.out.below BT.out)
          have a0 := (AA.out.below BQ.out).2.1.cell
          have NB := Lib.hid (show w1.heap.size + 1 < Wr.heap.size by have := FA.out; omega)
          gi_wp2_with (first | (gi_at_builtin; refine wpListIn_append_own_at _ rfl _ _ 32 rfl w.heap.size 3 i0 (.int .i64 0) 1 8 Try.underlying32 hi hz0 hz1 hz2 rfl (by decide) _ _ _ rfl AT.out.2.2 _ 1 1 [encI (x : Int)] rfl rfl (cell_one_at _ _ _ _ (by simp)) (by simp [Value.oneCell', encI]) (by unfold maxLen; omega) (by omega) hnT.out ?_; intro v' wz hown' hgrow hat; obtain ⟨g', cap', rfl⟩ := ownsRow_succ hown'; obtain ⟨f1, f2, f3, f4, f5, f6⟩ := acc_append' (x := (x : Int)) AT.out hnT.out hown' hgrow; have ALL := Lib.hid (And.intro f3 (And.intro f4 (And.intro f5 f6))); clear hown' hgrow hat f3 f4 f5 f6))
          have KO : KeepsOthers Wr (W.alloc (.cells #[.int .i64 (x : Int)] 3)) := KeepsOthers.of_grownBy (row := none) ⟨BT.out.os, BT.out.tape, BT.out.output, BT.out.size, fun k hk _ => BT.out.block k hk⟩ (fun r o e => by cases e)
          have hend : ∀ (g : Nat) (cs : Array Value) (t : TypeId), Wr.heap[g]? = some (Obj.cells cs t (0, 0)) → g ≠ w1.heap.size + 1 → t ≠ 3 → (wz.setCell ⟨w1.heap.size + 1, 0, none⟩ (.slice (some ⟨g', 0, none⟩) (z.length + 1) cap')).heap[g]? = some (Obj.cells cs t (0, 0)) := fun g cs t h1 h2 h3 =>
            ALL.out.2.2.2 g cs t ((BT.out.block g (Array.getElem?_eq_some_iff.1 h1).1).trans h1) h2 h3
          have B5 := (BT.out.mono hn0).trans ALL.out.2.2.1
          have hbb := hend _ _ _ HBS.out (by have := FA.out; omega) (by decide)
          have hbr : Row (wz.setCell ⟨w1.heap.size + 1, 0, none⟩ (.slice (some ⟨g', 0, none⟩) (z.length + 1) cap')) w1.heap.size 81 [.slice (some ⟨b, 0, none⟩) ps.length c, .int .i64 X, .int .i64 Y, .int .i64 D] := hend _ _ _ HRB.out (by omega) (by decide)
          refine ⟨(KO.trans ALL.out.2.1).from _, ⟨B5.size, B5.block b hbl, hbb.trans HBS.out.symm⟩, ⟨⟨.slice (some ⟨g', 0, none⟩) (z.length + 1) cap', ?_⟩, hbb, hbr⟩, HB.out.trans B5⟩
          rw [HFI.out]; exact ALL.out.1
  case done =>
    rintro D' W hD ⟨⟨⟨v, a0⟩, hbs, hrb⟩, hB⟩ hK
    have HB := Lib.hid hB
    have HK := Lib.hid hK
    have HD := Lib.hid hD
    have AA := Lib.hid a0
    have c0 := a0.2.1.cell
    clear a0 hbs hB hK hD hrb
    gi_wp2_with fail
    refine ⟨by simp, .inl ⟨_, _, rfl, run_takeDeferred HK.out, ?_⟩⟩
    have hle : w.heap.size ≤ D' := by
      have := HD.out
      have := FA.out
      omega
    have hBp := below_put HB.out hle HK.out (.deferred none)
    have hown := (AA.out.grown (row := some D') (grownBy_putObj' W D' (.deferred none)) (fun r e => by cases e; exact ⟨_, HK.out, rfl⟩)).2.2
    refine ⟨.tuple #[v, .int .i64 0], by simp [results, Try.results25, go_sem], ⟨v, rfl, ?_, hBp⟩⟩
    rw [HTP.out, show sidesL tp ps.length = ((upto ps.length).filter tp).map Int.ofNat from rfl]
    exact hown
  case stop =>
    rintro D c W hD h _
    exact h.elim
theorem Tips_any (ps : List Pt) (b c : Nat) (w : World) (hp : PtsAt w b 0 ps) (hck : chk ps = true) (hD0 : 0 < area ps) :
    Calls Try.prog 25 #[.slice (some ⟨b, 0, none⟩) ps.length c] w fun e w' => ∃ v, e = .returned (.tuple #[v, .int .i64 0]) ∧ w'.ownsRow w.heap.size 3 1 v (sidesL (tipB ps (mid ps)) ps.length).length ((sidesL (tipB ps (mid ps)) ps.length).map encI) ∧ Below w.heap.size w w' := callsIn_wide.1 (tips_in ps b c w hp hck hD0)
set_option maxHeartbeats 1000000 in
theorem Rests_any (ps : List Pt) (b c : Nat) (w : World) (hp : PtsAt w b 0 ps) (hck : chk ps = true) (hD0 : 0 < area ps) :
    Calls Try.prog 23 #[.slice (some ⟨b, 0, none⟩) ps.length c] w fun e w' => ∃ v, e = .returned (.tuple #[v, .int .i64 0]) ∧ w'.ownsRow w.heap.size 3 1 v (sidesL (restB ps (mid ps)) ps.length).length ((sidesL (restB ps (mid ps)) ps.length).map encI) ∧ Below w.heap.size w w' := by
  have ha : areP ps = true := by unfold chk at hck; exact (Bool.and_eq_true _ _ ▸ hck : _ ∧ _).1
  obtain ⟨h3, h12⟩ := areP_len ha
  have HM := Lib.hid (fun W (h : PtsAt W b 0 ps) => bodyOf_none ps b c W h hck hD0)
  obtain ⟨m1, m2, m3, m4⟩ := mid_facts ha hD0
  have HW := Lib.hid (fun W (h : PtsAt W b 0 ps) => which_any 69 (restB ps (mid ps)) ps b c (mid ps).1 (mid ps).2.1 (mid ps).2.2 W h12 h
    (fun s W' hs hp' => isRest_any ps b c (mid ps).1 (mid ps).2.1 (mid ps).2.2 s W' hp' ha hs m1 m2 m3 m4 (along_pos hck hs)) (fun args w => by kernel_rfl))
  obtain ⟨X, hX⟩ : ∃ X, (mid ps).1 = X := ⟨_, rfl⟩
  obtain ⟨Y, hY⟩ : ∃ Y, (mid ps).2.1 = Y := ⟨_, rfl⟩
  obtain ⟨D, hD⟩ : ∃ D, (mid ps).2.2 = D := ⟨_, rfl⟩
  rw [hX, hY, hD] at HM HW
  generalize sidesL (restB ps (mid ps)) ps.length = L at *
  have HP := Lib.hid hp
  clear hp hck hD0 ha m1 m2 m3 m4 hX hY hD
  go_enter Try.func23, Try.ntmps23
  go_wp2_with fail
  refine (HM.out w HP.out).mono ?_
  rintro e w1 ⟨rfl, hb1⟩
  have T1 := Lib.hid (Below.al hb1 (Nat.le_refl _) (.cells #[.slice (some ⟨b, 0, none⟩) ps.length c, .int .i64 X, .int .i64 Y, .int .i64 D] 81))
  clear hb1
  go_wp2_with fail
  refine (HW.out _ (HP.out.grow T1.out)).mono ?_
  rintro e w2 ⟨v, rfl, hr, hb2⟩
  have T2 := Lib.hid (Below.andThen T1.out hb2 (Nat.le_refl _))
  have HR := Lib.hid (ownsRow_lower hr T1.out.size)
  clear hr hb2
  go_wp2_with fail
  exact bodyPost_ret (v := .tuple #[v, .int .i64 0]) (by simp [results, Try.results23, go_sem]) rfl ⟨v, rfl, HR.out, T2.out⟩
end Go.Proofs.Ytlehddifcjklgaa
