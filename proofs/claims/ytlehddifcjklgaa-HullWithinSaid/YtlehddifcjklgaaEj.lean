import Derived.Test.YtlehddifcjklgaaEi
import Derived.Maps.OwnIn
import Derived.Maps.OwnSet
import Derived.Maps.AppendAt
import Derived.RangeFuncNested
import Derived.RangeFuncBound
import Derived.RangeFuncCalls
import Derived.RangeFuncLeaves
import Derived.Shelf.Abstract
import Derived.Shelf.RegionOpen
import Derived.WalkKit
import Derived.OwnWalkIn
import Derived.TacticsInMore
import Derived.LoopNIn
import Derived.LoopIn
import Derived.WalkMore
import Derived.Sort.QuietThIn
import Derived.Sort.QuietTacIn
import Derived.Sort.BigQuietIn
import Derived.WalkSpells
import Derived.WalkLawsBesides
import Derived.BigQuiet
import Derived.Deep.QuietTactic
import Derived.Lib.Hide
import Derived.Deep.RegionHeld3
import Derived.StillTailTactics
import Derived.Deep.LoopGhost
import Derived.Lib.IndexAny
namespace Go.Proofs.Ytlehddifcjklgaa
open Go.RowKit Go.Shelf
attribute [local go_sem] Oper.semAt_some
set_option maxRecDepth 100000 in
set_option maxHeartbeats 2000000 in
theorem rAround2_any (ps : List Pt) (b c : Nat) (w : World) (hp : PtsAt w b 0 ps) (ha : areP ps = true) :
    Calls Try.prog 42 #[.slice (some ⟨b, 0, none⟩) ps.length c] w fun e w' => ∃ v os, e = .returned (.tuple #[v, .bool (decide (3 ≤ os.length))]) ∧ OwnP w' w.heap.size v os ∧ ((2 ≤ os.length → Cyc ps os) ∧ (os.length = 1 → ∀ p ∈ ps, p = ptAt os 0) ∧ 1 ≤ os.length ∧ ptAt os 0 ∈ ps ∧ (∀ p ∈ ps, befB p (ptAt os 0) = false)) ∧ os.length ≤ ps.length ∧ Below w.heap.size w w' := by
  obtain ⟨i0, hi, hz0, hz1, hz2⟩ := info_parts info58
  obtain ⟨h3, h12⟩ := areP_len ha
  have HP := Lib.hid hp
  have HBD := Lib.hid (fun p (h : p ∈ ps) => (show Bd 1000 p.1 ∧ Bd 1000 p.2 by
    obtain ⟨i, hi, rfl⟩ := List.getElem_of_mem h
    have := inR_bd ha hi
    exact ⟨this.1.mono (by omega), this.2.mono (by omega)⟩))
  have x0 := hp.x 0 (by omega)
  have y0 := hp.y 0 (by omega)
  rw [show 0 + 0 * 2 = 0 from rfl] at x0
  rw [show 0 + 0 * 2 + 1 = 1 from rfl] at y0
  have hm0 := Lib.hid (List.getElem_mem (show 0 < ps.length by omega))
  have hb0 := Lib.hid (show ∀ p ∈ ps.take 1, befB p (ps[0]'(by omega)) = false from fun p hp => by
    rw [List.take_one] at hp
    have : ps.head? = some ps[0] := by rw [List.head?_eq_getElem?, List.getElem?_eq_getElem (by omega)]
    rw [this] at hp
    simp only [Option.toList_some, List.mem_singleton] at hp
    rw [hp]
    simp [befB])
  generalize ps[0] = f0 at *
  obtain ⟨f01, f02⟩ := f0
  dsimp only at x0 y0
  have dn : decide ((0 : Int) < (ps.length : Int)) = true := decide_eq_true (by omega)
  have dn2 : decide (0 < ps.length) = true := decide_eq_true (by omega)
  clear hp ha
  go_enter Try.func42, Try.ntmps42
  go_wp2_with fail
  obtain ⟨W0, hW0⟩ : ∃ W0, W0 = w.alloc (.cells #[.int .i64 f01, .int .i64 f02] 58) := ⟨_, rfl⟩
  have B0 := Lib.hid (show Below w.heap.size w W0 by rw [hW0]; exact (Below.refl _ _).alloc (Nat.le_refl _) _)
  have r0 := Lib.hid (show Row W0 w.heap.size 58 [.int .i64 f01, .int .i64 f02] by rw [hW0]; exact Row.new _ _ _)
  rw [← hW0]
  clear hW0
  go_loopw [5] (fun i wr => ∃ (k : Nat) (f1 f2 : Int), 1 ≤ k ∧ k ≤ ps.length ∧ i = .int .i64 (k : Int) ∧ Hid (Row wr w.heap.size 58 [.int .i64 f1, .int .i64 f2]) ∧ Hid ((f1, f2) ∈ ps) ∧ Hid (∀ p ∈ ps.take k, befB p (f1, f2) = false) ∧ Hid (Below w.heap.size w wr)) (fun i _ => ps.length - (intOf i).toNat)
  case atStart => exact ⟨1, f01, f02, by omega, by omega, rfl, r0, hm0, hb0, B0⟩
  case round =>
    clear x0 y0 hm0 hb0 r0 B0
    obtain ⟨k, f1, f2, hk1, hk, rfl, HR, HM, HBF, HB⟩ := hrel
    obtain ⟨z0, z1, z2, z3⟩ := two_cells HR.out
    by_cases hlt : k < ps.length
    · have hd : decide ((k : Int) < (ps.length : Int)) = true := decide_eq_true (by omega)
      have hd' : decide (k < ps.length) = true := decide_eq_true (by omega)
      have hx := below_at HB.out HP.out.lt (HP.out.x k hlt)
      have hy := below_at HB.out HP.out.lt (HP.out.y k hlt)
      rw [Nat.zero_add] at hx hy
      have HMK := Lib.hid (List.getElem_mem hlt)
      have HT := Lib.hid (show ps.take (k + 1) = ps.take k ++ [ps[k]] from List.take_succ_eq_append_getElem hlt)
      generalize ps[k] = q at *
      obtain ⟨q1, q2⟩ := q
      dsimp only at hx hy
      have u0 := Kl.cell HR.out.lt z0
      have u1 := Kl.cell HR.out.lt z1
      have hlb : b < wr.heap.size := Nat.lt_of_lt_of_le HP.out.lt HB.out.size
      have u2 := Kl.cell hlb hx
      have u3 := Kl.cell hlb hy
      clear z0 z1 z2 z3 hx hy
      go_wp2_with fail
      refine wp_region_below (by kernel_rfl) (by kernel_rfl) ?_
      repeat (go_big_quiet_step (first | (go_at_call 61; exact Kl.call (Before_any _ _ _ _ _))))
      refine wpQuiet_nil ?_
      rintro _ ⟨wq, rfl⟩
      have HB2 := Lib.hid (Below.andThen HB.out wq.h (Nat.le_refl _))
      have HR2 := Lib.hid (HR.out.below wq.h HR.out.lt)
      have hx := below_at wq.h hlb (u2 ⟨wr, Below.refl _ _⟩)
      have hy := below_at wq.h hlb (u3 ⟨wr, Below.refl _ _⟩)
      generalize wq.W = w5 at *
      clear u0 u1 u2 u3 HB HR
      obtain ⟨z0, z1, z2, z3⟩ := two_cells HR2.out
      cases hbf : befB (q1, q2) (f1, f2)
      · have HNX := Lib.hid (show ∀ p ∈ ps.take (k + 1), befB p (f1, f2) = false from fun p hp => by
          rw [HT.out] at hp
          rcases List.mem_append.1 hp with hp | hp
          · exact HBF.out p hp
          · rw [List.mem_singleton.1 hp]; exact hbf)
        clear hbf
        go_wp2_with fail
        refine ⟨⟨k + 1, f1, f2, by omega, by omega, by simp, HR2, HM, HNX, HB2⟩, ?_⟩
        simp [intOf]; omega
      · have HNX := Lib.hid (show ∀ p ∈ ps.take (k + 1), befB p (q1, q2) = false from fun p hp => by
          rw [HT.out] at hp
          rcases List.mem_append.1 hp with hp | hp
          · exact befB_trans hbf (HBF.out p hp)
          · rw [List.mem_singleton.1 hp]; simp [befB])
        clear hbf
        go_wp2_with fail
        have HR3 := Lib.hid (show Row ((w5.setCell ⟨w.heap.size, 0, none⟩ (.int .i64 q1)).setCell ⟨w.heap.size, 1, none⟩ (.int .i64 q2)) w.heap.size 58 [.int .i64 q1, .int .i64 q2] by
          simpa using (HR2.out.set 0 (.int .i64 q1)).set 1 (.int .i64 q2))
        have HB3 := Lib.hid ((HB2.out.setCell (p := ⟨w.heap.size, 0, none⟩) (Nat.le_refl _) (.int .i64 q1)).setCell (p := ⟨w.heap.size, 1, none⟩) (Nat.le_refl _) (.int .i64 q2))
        refine ⟨⟨k + 1, q1, q2, by omega, by omega, by simp, HR3, HMK, HNX, HB3⟩, ?_⟩
        simp [intOf]; omega
    · have hd : decide ((k : Int) < (ps.length : Int)) = false := decide_eq_false (by omega)
      have hd' : decide (k < ps.length) = false := decide_eq_false (by omega)
      obtain rfl : k = ps.length := by omega
      have HLE := Lib.hid (show ∀ p ∈ ps, befB p (f1, f2) = false from fun p hp => HBF.out p (by rw [List.take_length]; exact hp))
      have HE := Lib.hid (show Ext ps (f1, f2) from first_ext (fun p hp => HBF.out p (by rw [List.take_length]; exact hp)))
      obtain ⟨V1, hV1⟩ : ∃ V1, V1 = wr.alloc (.cells #[.int .i64 f1, .int .i64 f2] 58) := ⟨_, rfl⟩
      obtain ⟨V2, hV2⟩ : ∃ V2, V2 = V1.alloc (.cells #[.int .i64 f1, .int .i64 f2] 58) := ⟨_, rfl⟩
      have A1 : Below wr.heap.size wr V1 := by rw [hV1]; exact (Below.refl _ _).alloc (Nat.le_refl _) _
      have A2 : Below V1.heap.size V1 V2 := by rw [hV2]; exact (Below.refl _ _).alloc (Nat.le_refl _) _
      have s1 : V1.heap.size = wr.heap.size + 1 := by rw [hV1]; simp
      have rF1 : Row V1 w.heap.size 58 [.int .i64 f1, .int .i64 f2] := HR.out.below A1 HR.out.lt
      have rF2 := Lib.hid (rF1.below A2 rF1.lt)
      have rO1 : Row V1 wr.heap.size 58 [.int .i64 f1, .int .i64 f2] := by rw [hV1]; exact Row.new _ _ _
      have rO2 := rO1.below A2 rO1.lt
      have rA2 := Lib.hid (show Row V2 (wr.heap.size + 1) 58 [.int .i64 f1, .int .i64 f2] by
        have := Row.new V1 58 [.int .i64 f1, .int .i64 f2]
        rw [s1] at this; rw [hV2]; exact this)
      have OW := Lib.hid (show OwnP V2 w.heap.size (.slice (some ⟨wr.heap.size, 0, none⟩) 1 1) [(f1, f2)] from
        ⟨rfl, .inr ⟨_, 1, _, rfl, HB.out.size, rO2, Nat.le_refl _, by unfold maxLen; omega, rfl, rfl⟩⟩)
      have WY := Lib.hid (Way.start HM.out HE.out)
      have BB := Lib.hid (Below.andThen (Below.andThen HB.out A1 (Nat.le_refl _)) A2 (Nat.le_refl _))
      obtain ⟨y0, y1, _, _⟩ := two_cells rF1
      rw [hV1] at y0 y1
      have lF := HR.out.lt
      clear z2 z3 A1 A2 rF1 rO1 rO2
      go_wp2_with fail
      rw [← hV1, ← hV2]
      clear z0 z1 y0 y1 hV1 hV2
      obtain ⟨A, hA⟩ : ∃ A, A = wr.heap.size + 1 := ⟨_, rfl⟩
      have hFA := Lib.hid (show w.heap.size < A by rw [hA]; have := HB.out.size; omega)
      have hOA := Lib.hid (show (Value.slice (some ⟨wr.heap.size, 0, none⟩) 1 1).ownBlock ≠ some A ∧ (Value.slice (some ⟨wr.heap.size, 0, none⟩) 1 1).ownBlock ≠ some w.heap.size by
        rw [hA]; simp [Value.ownBlock]; omega)
      rw [← hA] at rA2
      rw [← hA]
      clear hA lF HB HR dn dn2 hd hd' s1
      go_loopw [6, 8, 9, 10] (fun v _ _ _ wx => ∃ (ao : Option Addr) (co : Nat) (os : List Pt) (a1 a2 : Int), v = .slice ao os.length co ∧ Hid (OwnP wx w.heap.size (.slice ao os.length co) os) ∧ Hid ((Value.slice ao os.length co).ownBlock ≠ some A ∧ (Value.slice ao os.length co).ownBlock ≠ some w.heap.size) ∧ Hid (Row wx w.heap.size 58 [.int .i64 f1, .int .i64 f2]) ∧ Hid (Row wx A 58 [.int .i64 a1, .int .i64 a2]) ∧ Hid (Way ps os (f1, f2) (a1, a2)) ∧ Hid (Below w.heap.size w wx)) (fun v _ _ _ _ => ps.length + 1 - lenOfV v)
      case atStart => exact ⟨some ⟨wr.heap.size, 0, none⟩, 1, [(f1, f2)], f1, f2, rfl, OW, hOA, rF2, rA2, WY, BB⟩
      case round =>
        clear OW hOA rF2 rA2 WY BB
        obtain ⟨ao, co, os, a1, a2, rfl, OW, hOA, rF, rA, WY, BB⟩ := hrel
        rename World => wx
        have haS := Lib.hid (show (a1, a2) ∈ ps ∧ Ext ps (a1, a2) by
          rw [← WY.out.last]; exact WY.out.mem _ (ptAt_mem (by have := WY.out.pos; omega)))
        obtain ⟨y0, y1, _, _⟩ := two_cells rA.out
        obtain ⟨U0, hU0⟩ : ∃ U0, U0 = wx.alloc (.cells #[.int .i64 a1, .int .i64 a2] 58) := ⟨_, rfl⟩
        have HU := Lib.hid (show Below wx.heap.size wx U0 by rw [hU0]; exact (Below.refl _ _).alloc (Nat.le_refl _) _)
        have rN := Lib.hid (show Row U0 wx.heap.size 58 [.int .i64 a1, .int .i64 a2] by rw [hU0]; exact Row.new _ _ _)
        go_wp2_with fail
        rw [← hU0]
        clear y0 y1 hU0
        go_loopw [9, 10] (fun i _ wy => ∃ (k : Nat) (n1 n2 : Int), k ≤ ps.length ∧ i = .int .i64 (k : Int) ∧ Hid (Row wy wx.heap.size 58 [.int .i64 n1, .int .i64 n2]) ∧ Hid ((n1, n2) ∈ ps) ∧ Hid ((ps.take k).foldl (pick1 (a1, a2)) (a1, a2) = (n1, n2)) ∧ Hid (Below wx.heap.size wx wy)) (fun i _ _ => ps.length - (intOf i).toNat)
        case atStart => exact ⟨0, a1, a2, by omega, rfl, rN, Lib.hid haS.out.1, Lib.hid rfl, HU⟩
        case round =>
          clear rN HU
          obtain ⟨k, n1, n2, hk, rfl, rN, hnS, hPK, HU⟩ := hrel
          rename World => wy
          by_cases hlt : k < ps.length
          · have hd : decide ((k : Int) < (ps.length : Int)) = true := decide_eq_true (by omega)
            have hd' : decide (k < ps.length) = true := decide_eq_true (by omega)
            have BY := Lib.hid (Below.andThen BB.out HU.out (Nat.le_refl _))
            have hx := below_at BY.out HP.out.lt (HP.out.x k hlt)
            have hy := below_at BY.out HP.out.lt (HP.out.y k hlt)
            rw [Nat.zero_add] at hx hy
            have hpS := Lib.hid (List.getElem_mem hlt)
            have HT := Lib.hid (show (ps.take (k + 1)).foldl (pick1 (a1, a2)) (a1, a2) = pick1 (a1, a2) (n1, n2) ps[k] by
              rw [List.take_succ_eq_append_getElem hlt, List.foldl_append, hPK.out]; rfl)
            generalize ps[k] = q at *
            obtain ⟨p1, p2⟩ := q
            dsimp only at hx hy
            have rAy := Lib.hid (rA.out.below HU.out rA.out.lt)
            have hlb : b < wy.heap.size := Nat.lt_of_lt_of_le HP.out.lt BY.out.size
            have KK := Lib.hid (show ∀ W, Below wy.heap.size wy W → (W.cell? ⟨b, k * 2, none⟩ = some (.int .i64 p1) ∧ W.cell? ⟨b, k * 2 + 1, none⟩ = some (.int .i64 p2)) ∧ Row W A 58 [.int .i64 a1, .int .i64 a2] ∧ Row W wx.heap.size 58 [.int .i64 n1, .int .i64 n2] from fun W h => ⟨⟨below_at h hlb hx, below_at h hlb hy⟩, rAy.out.below h rAy.out.lt, rN.out.below h rN.out.lt⟩)
            clear hx hy
            have CELLS : Hid (∀ W, Below wy.heap.size wy W → ((∀ x : Kl W, x.W.cell? ⟨b, k * 2, none⟩ = some (.int .i64 p1)) ∧ (∀ x : Kl W, x.W.cell? ⟨b, k * 2 + 1, none⟩ = some (.int .i64 p2)) ∧ (∀ x : Kl W, x.W.cell? ⟨A, 0, none⟩ = some (.int .i64 a1)) ∧ (∀ x : Kl W, x.W.cell? ⟨A, 1, none⟩ = some (.int .i64 a2)) ∧ (∀ x : Kl W, x.W.cell? ⟨wx.heap.size, 0, none⟩ = some (.int .i64 n1)) ∧ (∀ x : Kl W, x.W.cell? ⟨wx.heap.size, 1, none⟩ = some (.int .i64 n2)))) := Lib.hid (fun W h => by
              have kk : ∀ x : Kl W, _ := fun x => KK.out x.W (Below.andThen h x.h (Nat.le_refl _))
              exact ⟨fun x => (kk x).1.1, fun x => (kk x).1.2, fun x => (two_cells (kk x).2.1).1, fun x => (two_cells (kk x).2.1).2.1, fun x => (two_cells (kk x).2.2).1, fun x => (two_cells (kk x).2.2).2.1⟩)
            have E1 := fun W => eq58g p1 p2 a1 a2 W
            obtain ⟨u0, u1, u2, u3, u4, u5⟩ := CELLS.out wy (Below.refl _ _)
            by_cases hpa : (p1, p2) = (a1, a2)
            · have dpa : decide (((p1, p2) : Pt) = (a1, a2)) = true := decide_eq_true hpa
              rw [dpa] at E1
              have HNX := Lib.hid (show (ps.take (k + 1)).foldl (pick1 (a1, a2)) (a1, a2) = (n1, n2) by rw [HT.out]; unfold pick1; rw [if_pos hpa])
              clear hpa dpa
              go_wp2_with fail
              refine wp_region_below (by kernel_rfl) (by kernel_rfl) ?_
              repeat (go_big_quiet_step (fail))
              refine wpQuiet_nil ?_
              rintro _ ⟨wq, rfl⟩
              have H5 := Lib.hid wq.h
              generalize wq.W = w5 at *
              clear u0 u1 u2 u3 u4 u5
              go_wp2_with fail
              refine ⟨⟨k + 1, n1, n2, by omega, by simp, Lib.hid (KK.out _ H5.out).2.2, hnS, HNX, Lib.hid (Below.andThen HU.out H5.out (Nat.le_refl _))⟩, ?_⟩
              simp [intOf]; omega
            · have dpa : decide (((p1, p2) : Pt) = (a1, a2)) = false := decide_eq_false hpa
              rw [dpa] at E1
              have HPA := Lib.hid hpa
              clear hpa dpa
              go_wp2_with fail
              refine wp_region_below (by kernel_rfl) (by kernel_rfl) ?_
              repeat (go_big_quiet_step (fail))
              refine wpQuiet_nil ?_
              rintro _ ⟨wq, rfl⟩
              have H5 := Lib.hid wq.h
              generalize wq.W = w5 at *
              clear u0 u1 u2 u3 u4 u5 E1
              obtain ⟨u0, u1, u2, u3, u4, u5⟩ := CELLS.out w5 H5.out
              have bp := HBD.out _ hpS.out
              have ba := HBD.out _ haS.out.1
              have bn := HBD.out _ hnS.out
              have HTU := Lib.hid (fun W => Turn_any a1 a2 n1 n2 p1 p2 W ba.1 ba.2 bn.1 bn.2 bp.1 bp.2)
              have HF := Lib.hid (fun x1 x2 W (h : (x1, x2) ∈ ps) => far_any a1 a2 x1 x2 W ba.1 ba.2 (HBD.out _ h).1 (HBD.out _ h).2)
              clear bp ba bn
              obtain ⟨t, ht⟩ : ∃ t, turn (a1, a2) (n1, n2) (p1, p2) = t := ⟨_, rfl⟩
              rw [ht] at HTU
              go_wp2_with fail
              refine wp_region_below (by kernel_rfl) (by kernel_rfl) ?_
              repeat (go_big_quiet_step (first | (go_at_call 60; exact Kl.call (HTU.out _))))
              refine wpQuiet_nil ?_
              rintro _ ⟨wq, rfl⟩
              have H6 := Lib.hid (Below.andThen H5.out wq.h (Nat.le_refl _))
              generalize wq.W = w6 at *
              clear u0 u1 u2 u3 u4 u5
              obtain ⟨u0, u1, u2, u3, u4, u5⟩ := CELLS.out w6 H6.out
              have E2 := fun W => eq58g n1 n2 a1 a2 W
              have HBT := Lib.hid (show betterB (a1, a2) (n1, n2) (p1, p2) = (decide (((n1, n2) : Pt) = (a1, a2)) || (decide (t < 0) || (decide (t = 0) && decide (far (a1, a2) (n1, n2) < far (a1, a2) (p1, p2))))) by unfold betterB; rw [ht])
              have HPI := Lib.hid (show ∀ v, betterB (a1, a2) (n1, n2) (p1, p2) = v → (ps.take (k + 1)).foldl (pick1 (a1, a2)) (a1, a2) = if v then (p1, p2) else (n1, n2) from fun v h => by rw [HT.out]; unfold pick1; rw [if_neg HPA.out, h])
              clear ht
              by_cases c1 : (n1, n2) = (a1, a2)
              · have d1 : decide (((n1, n2) : Pt) = (a1, a2)) = true := decide_eq_true c1
                rw [d1] at E2
                have HNX := Lib.hid (HPI.out true (by rw [HBT.out, d1]; rfl))
                clear c1 d1 HPI HBT
                go_wp2_with fail
                refine wp_region_below (by kernel_rfl) (by kernel_rfl) ?_
                repeat (go_big_quiet_step (first | (go_at_call 91; exact Kl.call (HF.out _ _ _ (by first | exact hpS.out | exact hnS.out)))))
                refine wpQuiet_nil ?_
                rintro _ ⟨wq, rfl⟩
                have H7 := Lib.hid (Below.andThen H6.out wq.h (Nat.le_refl _))
                generalize wq.W = w7 at *
                clear u0 u1 u2 u3 u4 u5 E2
                obtain ⟨⟨v0, v1⟩, _, rN7⟩ := KK.out w7 H7.out
                obtain ⟨m0, m1, m2, m3⟩ := two_cells rN7
                have HRN := Lib.hid rN7
                clear rN7
                go_wp2_with fail
                have HR3 := Lib.hid (show Row ((w7.setCell ⟨wx.heap.size, 0, none⟩ (.int .i64 p1)).setCell ⟨wx.heap.size, 1, none⟩ (.int .i64 p2)) wx.heap.size 58 [.int .i64 p1, .int .i64 p2] by
                  simpa using (HRN.out.set 0 (.int .i64 p1)).set 1 (.int .i64 p2))
                have HB3 := Lib.hid (((Below.andThen HU.out H7.out (Nat.le_refl _)).setCell (p := ⟨wx.heap.size, 0, none⟩) (Nat.le_refl _) (.int .i64 p1)).setCell (p := ⟨wx.heap.size, 1, none⟩) (Nat.le_refl _) (.int .i64 p2))
                refine ⟨⟨k + 1, p1, p2, by omega, by simp, HR3, hpS, HNX, HB3⟩, ?_⟩
                simp [intOf]; omega
              · have d1 : decide (((n1, n2) : Pt) = (a1, a2)) = false := decide_eq_false c1
                rw [d1] at E2
                rw [d1] at HBT
                clear c1 d1
                by_cases c2 : t < 0
                · have d2 : decide (t < 0) = true := decide_eq_true c2
                  have HNX := Lib.hid (HPI.out true (by rw [HBT.out, d2]; rfl))
                  clear c2 HPI HBT
                  go_wp2_with fail
                  refine wp_region_below (by kernel_rfl) (by kernel_rfl) ?_
                  repeat (go_big_quiet_step (first | (go_at_call 91; exact Kl.call (HF.out _ _ _ (by first | exact hpS.out | exact hnS.out)))))
                  refine wpQuiet_nil ?_
                  rintro _ ⟨wq, rfl⟩
                  have H7 := Lib.hid (Below.andThen H6.out wq.h (Nat.le_refl _))
                  generalize wq.W = w7 at *
                  clear u0 u1 u2 u3 u4 u5 E2
                  obtain ⟨⟨v0, v1⟩, _, rN7⟩ := KK.out w7 H7.out
                  obtain ⟨m0, m1, m2, m3⟩ := two_cells rN7
                  have HRN := Lib.hid rN7
                  clear rN7
                  go_wp2_with fail
                  have HR3 := Lib.hid (show Row ((w7.setCell ⟨wx.heap.size, 0, none⟩ (.int .i64 p1)).setCell ⟨wx.heap.size, 1, none⟩ (.int .i64 p2)) wx.heap.size 58 [.int .i64 p1, .int .i64 p2] by
                    simpa using (HRN.out.set 0 (.int .i64 p1)).set 1 (.int .i64 p2))
                  have HB3 := Lib.hid (((Below.andThen HU.out H7.out (Nat.le_refl _)).setCell (p := ⟨wx.heap.size, 0, none⟩) (Nat.le_refl _) (.int .i64 p1)).setCell (p := ⟨wx.heap.size, 1, none⟩) (Nat.le_refl _) (.int .i64 p2))
                  refine ⟨⟨k + 1, p1, p2, by omega, by simp, HR3, hpS, HNX, HB3⟩, ?_⟩
                  simp [intOf]; omega
                · have d2 : decide (t < 0) = false := decide_eq_false c2
                  by_cases c3 : t = 0
                  · have d3 : (t == 0) = true := by simp [c3]
                    have d3' : decide (t = 0) = true := decide_eq_true c3
                    by_cases c4 : far (a1, a2) (n1, n2) < far (a1, a2) (p1, p2)
                    · have d4 : decide (far (a1, a2) (n1, n2) < far (a1, a2) (p1, p2)) = true := decide_eq_true c4
                      have HNX := Lib.hid (HPI.out true (by rw [HBT.out, d2, d3', d4]; rfl))
                      clear c2 c3 c4 HPI HBT
                      go_wp2_with fail
                      refine wp_region_below (by kernel_rfl) (by kernel_rfl) ?_
                      repeat (go_big_quiet_step (first | (go_at_call 91; exact Kl.call (HF.out _ _ _ (by first | exact hpS.out | exact hnS.out)))))
                      refine wpQuiet_nil ?_
                      rintro _ ⟨wq, rfl⟩
                      have H7 := Lib.hid (Below.andThen H6.out wq.h (Nat.le_refl _))
                      generalize wq.W = w7 at *
                      clear u0 u1 u2 u3 u4 u5 E2
                      obtain ⟨⟨v0, v1⟩, _, rN7⟩ := KK.out w7 H7.out
                      obtain ⟨m0, m1, m2, m3⟩ := two_cells rN7
                      have HRN := Lib.hid rN7
                      clear rN7
                      go_wp2_with fail
                      have HR3 := Lib.hid (show Row ((w7.setCell ⟨wx.heap.size, 0, none⟩ (.int .i64 p1)).setCell ⟨wx.heap.size, 1, none⟩ (.int .i64 p2)) wx.heap.size 58 [.int .i64 p1, .int .i64 p2] by
                        simpa using (HRN.out.set 0 (.int .i64 p1)).set 1 (.int .i64 p2))
                      have HB3 := Lib.hid (((Below.andThen HU.out H7.out (Nat.le_refl _)).setCell (p := ⟨wx.heap.size, 0, none⟩) (Nat.le_refl _) (.int .i64 p1)).setCell (p := ⟨wx.heap.size, 1, none⟩) (Nat.le_refl _) (.int .i64 p2))
                      refine ⟨⟨k + 1, p1, p2, by omega, by simp, HR3, hpS, HNX, HB3⟩, ?_⟩
                      simp [intOf]; omega
                    · have d4 : decide (far (a1, a2) (n1, n2) < far (a1, a2) (p1, p2)) = false := decide_eq_false c4
                      have HNX := Lib.hid (HPI.out false (by rw [HBT.out, d2, d3', d4]; rfl))
                      clear c2 c3 c4 HPI HBT
                      go_wp2_with fail
                      refine wp_region_below (by kernel_rfl) (by kernel_rfl) ?_
                      repeat (go_big_quiet_step (first | (go_at_call 91; exact Kl.call (HF.out _ _ _ (by first | exact hpS.out | exact hnS.out)))))
                      refine wpQuiet_nil ?_
                      rintro _ ⟨wq, rfl⟩
                      have H7 := Lib.hid (Below.andThen H6.out wq.h (Nat.le_refl _))
                      generalize wq.W = w7 at *
                      clear u0 u1 u2 u3 u4 u5 E2
                      go_wp2_with fail
                      refine ⟨⟨k + 1, n1, n2, by omega, by simp, Lib.hid (KK.out _ H7.out).2.2, hnS, HNX, Lib.hid (Below.andThen HU.out H7.out (Nat.le_refl _))⟩, ?_⟩
                      simp [intOf]; omega
                  · have d3 : (t == 0) = false := by simp [c3]
                    have d3' : decide (t = 0) = false := decide_eq_false c3
                    have HNX := Lib.hid (HPI.out false (by rw [HBT.out, d2, d3']; rfl))
                    clear c2 c3 HPI HBT
                    go_wp2_with fail
                    refine wp_region_below (by kernel_rfl) (by kernel_rfl) ?_
                    repeat (go_big_quiet_step (first | (go_at_call 91; exact Kl.call (HF.out _ _ _ (by first | exact hpS.out | exact hnS.out)))))
                    refine wpQuiet_nil ?_
                    rintro _ ⟨wq, rfl⟩
                    have H7 := Lib.hid (Below.andThen H6.out wq.h (Nat.le_refl _))
                    generalize wq.W = w7 at *
                    clear u0 u1 u2 u3 u4 u5 E2
                    go_wp2_with fail
                    refine ⟨⟨k + 1, n1, n2, by omega, by simp, Lib.hid (KK.out _ H7.out).2.2, hnS, HNX, Lib.hid (Below.andThen HU.out H7.out (Nat.le_refl _))⟩, ?_⟩
                    simp [intOf]; omega
          · have hd : decide ((k : Int) < (ps.length : Int)) = false := decide_eq_false (by omega)
            have hd' : decide (k < ps.length) = false := decide_eq_false (by omega)
            obtain rfl : k = ps.length := by omega
            have HPICK := Lib.hid (show pick ps (a1, a2) = (n1, n2) by have h := hPK.out; rw [List.take_length] at h; exact h)
            have HBEST := Lib.hid (show (n1, n2) ≠ (a1, a2) → Best ps (a1, a2) (n1, n2) from fun h => by
              have := pick_best haS.out.2 ⟨_, hnS.out, h⟩
              rw [HPICK.out] at this; exact this)
            have HALL := Lib.hid (show (n1, n2) = (a1, a2) → (f1, f2) = (a1, a2) from fun h => by
              rcases Classical.em ((f1, f2) = (a1, a2)) with h2 | h2
              · exact h2
              · have := pick_best haS.out.2 ⟨_, HM.out, h2⟩
                rw [HPICK.out] at this
                exact absurd h this.2.1)
            have LEN := Lib.hid (nodup_le WY.out.nodup (fun x hx => (WY.out.mem x hx).1))
            have BY := Lib.hid (Below.andThen BB.out HU.out (Nat.le_refl _))
            have rAy := Lib.hid (rA.out.below HU.out rA.out.lt)
            have rFy := Lib.hid (rF.out.below HU.out rF.out.lt)
            obtain ⟨y0, y1, _, _⟩ := two_cells rAy.out
            obtain ⟨y2, y3, _, _⟩ := two_cells rFy.out
            obtain ⟨y4, y5, _, _⟩ := two_cells rN.out
            have E1 := fun W => eq58g n1 n2 f1 f2 W
            have E2 := fun W => eq58g n1 n2 a1 a2 W
            by_cases c1 : (n1, n2) = (f1, f2)
            · have d1 : decide (((n1, n2) : Pt) = (f1, f2)) = true := decide_eq_true c1
              rw [d1] at E1
              have CYC := Lib.hid (show (2 ≤ os.length → Cyc ps os) ∧ (os.length = 1 → ∀ p ∈ ps, p = ptAt os 0) ∧ 1 ≤ os.length ∧ ptAt os 0 ∈ ps ∧ (∀ p ∈ ps, befB p (ptAt os 0) = false) from by
                have hf := WY.out.first
                have hpos := WY.out.pos
                refine ⟨fun h3 => ?_, fun h1 => ?_, hpos, ?_, ?_⟩
                · by_cases c2 : (n1, n2) = (a1, a2)
                  · exfalso
                    have e1 : ptAt os 0 = ptAt os (os.length - 1) := by rw [WY.out.first, WY.out.last]; exact HALL.out c2
                    have := nodup_idx WY.out.nodup (by omega) (by omega) e1
                    omega
                  · have := HBEST.out c2
                    rw [c1] at this
                    exact WY.out.close this
                · have hl := WY.out.last
                  rw [h1, Nat.sub_self] at hl
                  intro p hp
                  rw [hl]
                  rcases Classical.em (p = (a1, a2)) with h | h
                  · exact h
                  · have hb := pick_best haS.out.2 ⟨p, hp, h⟩
                    rw [HPICK.out] at hb
                    exact absurd (c1.trans (hf.symm.trans hl)) hb.2.1
                · rw [hf]; exact (WY.out.mem _ (by rw [← hf]; exact ptAt_mem hpos)).1
                · rw [hf]; exact HLE.out)
              clear c1 d1
              have OW5 := Lib.hid (show OwnP wy w.heap.size (.slice ao os.length co) os from own_grow OW.out HU.out)
              by_cases g3 : 3 ≤ os.length
              · have q1 : decide (3 ≤ (os.length : Int)) = true := decide_eq_true (by omega)
                have q2 : decide (3 ≤ os.length) = true := decide_eq_true g3
                have Q2 := Lib.hid q2
                clear g3
                go_wp2_with fail
                exact bodyPost_ret (v := .tuple #[.slice ao os.length co, .bool true]) (by simp [results, Try.results42, go_sem]) rfl ⟨_, os, by rw [Q2.out], OW5.out, CYC.out, LEN.out, BY.out⟩
              · have q1 : decide (3 ≤ (os.length : Int)) = false := decide_eq_false (by omega)
                have q2 : decide (3 ≤ os.length) = false := decide_eq_false g3
                have Q2 := Lib.hid q2
                clear g3
                go_wp2_with fail
                exact bodyPost_ret (v := .tuple #[.slice ao os.length co, .bool false]) (by simp [results, Try.results42, go_sem]) rfl ⟨_, os, by rw [Q2.out], OW5.out, CYC.out, LEN.out, BY.out⟩
            · have d1 : decide (((n1, n2) : Pt) = (f1, f2)) = false := decide_eq_false c1
              rw [d1] at E1
              by_cases c2 : (n1, n2) = (a1, a2)
              · have d2 : decide (((n1, n2) : Pt) = (a1, a2)) = true := decide_eq_true c2
                rw [d2] at E2
                have CYC := Lib.hid (show (2 ≤ os.length → Cyc ps os) ∧ (os.length = 1 → ∀ p ∈ ps, p = ptAt os 0) ∧ 1 ≤ os.length ∧ ptAt os 0 ∈ ps ∧ (∀ p ∈ ps, befB p (ptAt os 0) = false) from absurd (c2.trans (HALL.out c2).symm) c1)
                clear c1 d1 c2 d2
                have OW5 := Lib.hid (show OwnP wy w.heap.size (.slice ao os.length co) os from own_grow OW.out HU.out)
                by_cases g3 : 3 ≤ os.length
                · have q1 : decide (3 ≤ (os.length : Int)) = true := decide_eq_true (by omega)
                  have q2 : decide (3 ≤ os.length) = true := decide_eq_true g3
                  have Q2 := Lib.hid q2
                  clear g3
                  go_wp2_with fail
                  exact bodyPost_ret (v := .tuple #[.slice ao os.length co, .bool true]) (by simp [results, Try.results42, go_sem]) rfl ⟨_, os, by rw [Q2.out], OW5.out, CYC.out, LEN.out, BY.out⟩
                · have q1 : decide (3 ≤ (os.length : Int)) = false := decide_eq_false (by omega)
                  have q2 : decide (3 ≤ os.length) = false := decide_eq_false g3
                  have Q2 := Lib.hid q2
                  clear g3
                  go_wp2_with fail
                  exact bodyPost_ret (v := .tuple #[.slice ao os.length co, .bool false]) (by simp [results, Try.results42, go_sem]) rfl ⟨_, os, by rw [Q2.out], OW5.out, CYC.out, LEN.out, BY.out⟩
              · have d2 : decide (((n1, n2) : Pt) = (a1, a2)) = false := decide_eq_false c2
                rw [d2] at E2
                have WN := Lib.hid (WY.out.step (HBEST.out c2) c1)
                have LEN2 := Lib.hid (nodup_le WN.out.nodup (fun x hx => (WN.out.mem x hx).1))
                clear c1 d1 c2 d2
                have OWy := Lib.hid (show OwnP wy w.heap.size (.slice ao os.length co) os from own_grow OW.out HU.out)
                have hNO := Lib.hid (show (Value.slice ao os.length co).ownBlock ≠ some wx.heap.size from fun e => by
                  have := own_lt OW.out _ e; omega)
                have LL := Lib.hid (show os.length + 1 ≤ 13 by have := LEN.out; omega)
                go_wp2_with (at_builtin; refine wpList_append_own_at _ rfl _ _ 22 rfl w.heap.size 58 i0 (.agg #[.int .i64 0, .int .i64 0]) 2 16 Try.underlying22 hi hz0 hz1 hz2 rfl (by decide) _ _ _ rfl (World.ownsRow.alloc OWy.out _) _ 1 1 [.int .i64 n1, .int .i64 n2] rfl rfl (cell_two_at _ _ _ _ _ rfl) (by simp [Value.oneCell']) (by have := LL.out; unfold maxLen; omega) (by have := LL.out; omega) (Nat.le_trans BY.out.size (by simp)) ?_; intro v' w2 hown' hgrow hnil hat; have HR2 := Lib.hid (show OwnP w2 w.heap.size v' (os ++ [(n1, n2)]) by unfold OwnP; rw [flat_append, List.length_append]; exact hown'); have B2 := Lib.hid (own_belowP OWy.out rfl BY.out (Below.al BY.out (Nat.le_refl _) _) hgrow); have K1 := Lib.hid (grow_row hgrow (rN.out.below ((Below.refl _ _).alloc (Nat.le_refl _) _) rN.out.lt) hNO.out); have K2 := Lib.hid (grow_row hgrow (rAy.out.below ((Below.refl _ _).alloc (Nat.le_refl _) _) rAy.out.lt) hOA.out.1); have K3 := Lib.hid (grow_row hgrow (rFy.out.below ((Below.refl _ _).alloc (Nat.le_refl _) _) rFy.out.lt) hOA.out.2); have HAT := Lib.hid hat; obtain ⟨m0, m1, _, _⟩ := two_cells K1.out; obtain ⟨m2, m3, m4, m5⟩ := two_cells K2.out; clear hown' hgrow hnil hat)
                have hv' : v'.ownBlock ≠ some A ∧ v'.ownBlock ≠ some w.heap.size := by
                  have hs : (wy.alloc (.cells #[.int .i64 n1, .int .i64 n2] 58)).heap.size = wy.heap.size + 1 := by simp
                  have l1 := rAy.out.lt
                  have l2 := rFy.out.lt
                  rcases HAT.out with h | h
                  · rw [h]; exact hOA.out
                  · rw [h, hs]
                    constructor
                    · intro e; simp only [Option.some.injEq] at e; omega
                    · intro e; simp only [Option.some.injEq] at e; omega
                obtain ⟨a3, c3, rfl, hop⟩ := HR2.out.open
                clear hop
                have W1 := ownP_set (ownP_set HR2.out hv'.1 0 (.int .i64 n1)) hv'.1 1 (.int .i64 n2)
                have R1 := row_set_other (row_set_other K3.out (g' := A) (by have := hFA.out; omega) 0 (.int .i64 n1)) (g' := A) (by have := hFA.out; omega) 1 (.int .i64 n2)
                have R2 : Row ((w2.setCell ⟨A, 0, none⟩ (.int .i64 n1)).setCell ⟨A, 1, none⟩ (.int .i64 n2)) A 58 [.int .i64 n1, .int .i64 n2] := by
                  simpa using (K2.out.set 0 (.int .i64 n1)).set 1 (.int .i64 n2)
                have B3 := (B2.out.setCell (p := ⟨A, 0, none⟩) (by have := hFA.out; dsimp only; omega) (.int .i64 n1)).setCell (p := ⟨A, 1, none⟩) (by have := hFA.out; dsimp only; omega) (.int .i64 n2)
                refine ⟨⟨a3, c3, os ++ [(n1, n2)], n1, n2, rfl, Lib.hid W1, Lib.hid hv', Lib.hid R1, Lib.hid R2, WN, Lib.hid B3⟩, ?_⟩
                have := LEN2.out
                simp only [lenOfV, List.length_append, List.length_singleton] at this ⊢
                omega
end Go.Proofs.Ytlehddifcjklgaa
