import Derived.Test.YtbhlddfjfcmncaaYn
import Derived.Test.YtbhlddfjfcmncaaYg
import Derived.Maps.OwnIn
import Derived.Maps.OwnSet
import Derived.RangeFuncNested
import Derived.RangeFuncBound
import Derived.RangeFuncCalls
import Derived.RangeFuncLeaves
import Derived.Shelf.Abstract
import Derived.Shelf.RegionOpen
import Derived.WalkKit
import Derived.OwnWalkIn
import Derived.TacticsInMore
import Derived.LoopNIn
import Derived.LoopIn
import Derived.WalkSpells
import Derived.WalkLawsBesides
import Derived.BigQuiet
import Derived.Deep.QuietTactic
import Derived.Lib.Hide
import Derived.Deep.RegionHeld3
import Derived.StillTailTactics
import Derived.Lib.MakeNoZero
import Derived.Laws.CopyOwn
import Derived.Deep.RegionLaw
import Derived.Deep.LoopGhost
import Derived.Deep.CutBlock
import Derived.Deep.AppendLies
import Derived.Deep.DeepCutAuto
import Derived.Lib.IndexAny
namespace Go.Proofs.Ytbhlddfjfcmncaa
open Go.RowKit Go.Shelf
attribute [local go_sem] Oper.semAt_some
set_option maxRecDepth 100000 in
set_option maxHeartbeats 400000 in
theorem refSlope_any (p q r : Nat) (w : World) (Q1 : 1 ≤ q) (Q2 : q ≤ 60) (P2 : p ≤ q) (lr : r < q) :
    Calls Try.prog 55 #[.int .i64 p, .int .i64 q, .int .i64 r] w fun e w' => e = .returned (.agg #[.string (toS (slopeF p q r)), .string (toS (slopeR p q r))]) ∧ Below w.heap.size w w' := by
  obtain ⟨i0, hi, hz0, hz1, hz2⟩ := info_parts infoBool
  have HI := Lib.hid hi
  have H0 := Lib.hid hz0
  have H1 := Lib.hid hz1
  have H2 := Lib.hid hz2
  clear hi hz0 hz1 hz2
  go_enter Try.func55, Try.ntmps55
  go_wp2_with fail
  obtain ⟨W0, hW0⟩ : ∃ W0, W0 = w.alloc (.cells #[.string { data := #[] }, .string { data := #[] }] 24) := ⟨_, rfl⟩
  have B0 : Hid (Below w.heap.size w W0) := Lib.hid (by rw [hW0]; exact (Below.refl _ _).alloc (Nat.le_refl _) _)
  have s0 : Hid (W0.heap.size = w.heap.size + 1) := Lib.hid (by rw [hW0, size_al])
  have d0 : W0.cell? ⟨w.heap.size, 0, none⟩ = some (.string { data := #[] }) := by rw [hW0]; simp [cell_al]
  have d1 : W0.cell? ⟨w.heap.size, 1, none⟩ = some (.string { data := #[] }) := by rw [hW0]; simp [cell_al]
  have d2 : W0.frozen? ⟨w.heap.size, 0, none⟩ = false := by rw [hW0]; simp [frozen_al]
  have d3 : W0.frozen? ⟨w.heap.size, 1, none⟩ = false := by rw [hW0]; simp [frozen_al]
  rw [← hW0]
  clear hW0
  have D0 := Lib.hid (And.intro d0 (And.intro d1 (And.intro d2 d3)))
  clear d0 d1 d2 d3
  go_loopw [7, 8] (fun v i wr => ∃ k : Nat, k ≤ 4 * q + 400 ∧ i = .int .i64 k ∧ Hid (wr.ownsRow (w.heap.size + 1) 4 1 v k ((hoursL (slopeY p q r) k).map encBo)) ∧ Hid (Below (w.heap.size + 1) W0 wr)) (fun _ i _ => 4 * q + 400 - (intOf i).toNat)
  case atStart => exact ⟨0, Nat.zero_le _, rfl, Lib.hid (World.ownsRow_nil _ _ _ _), Lib.hid (Below.refl _ _)⟩
  case round =>
    obtain ⟨k, hk, rfl, hown, hbel⟩ := hrel
    by_cases h1 : k < 4 * q + 400
    · have t1 : decide ((k : Int) < 4 * (q : Int) + 400) = true := decide_eq_true (by omega)
      have m1 : p * k ≤ 60 * 1000 := Nat.mul_le_mul (by omega) (by omega)
      have m2 : p * (k + 1) ≤ 60 * 1000 := Nat.mul_le_mul (by omega) (by omega)
      have e1 : IntKind.i64.wrap ((p : Int) * (k : Int)) = ((p * k : Nat) : Int) := by rw [← Int.natCast_mul, i64_of _ (by omega) (by omega)]
      have e2 : IntKind.i64.wrap (((p * k : Nat) : Int) + (r : Int)) = ((p * k + r : Nat) : Int) := by rw [i64_of _ (by omega) (by omega)]; omega
      have e3 : IntKind.i64.wrap ((k : Int) + 1) = ((k + 1 : Nat) : Int) := by rw [i64_of _ (by omega) (by omega)]; omega
      have e4 : IntKind.i64.wrap ((p : Int) * ((k + 1 : Nat) : Int)) = ((p * (k + 1) : Nat) : Int) := by rw [← Int.natCast_mul, i64_of _ (by omega) (by omega)]
      have e5 : IntKind.i64.wrap (((p * (k + 1) : Nat) : Int) + (r : Int)) = ((p * (k + 1) + r : Nat) : Int) := by rw [i64_of _ (by omega) (by omega)]; omega
      have x1 : (((p * k + r : Nat) : Int)).tdiv (q : Int) = (((p * k + r) / q : Nat) : Int) := by rw [← Int.ofNat_tdiv]
      have x2 : (((p * (k + 1) + r : Nat) : Int)).tdiv (q : Int) = (((p * (k + 1) + r) / q : Nat) : Int) := by rw [← Int.ofNat_tdiv]
      have q0 : ¬ ((q : Int) = 0) := by omega
      have q00 : ¬ (q = 0) := by omega
      have u1 : (p * k + r) / q ≤ 100000 := Nat.le_trans (Nat.div_le_self _ _) (by omega)
      have u2 : (p * (k + 1) + r) / q ≤ 100000 := Nat.le_trans (Nat.div_le_self _ _) (by omega)
      have e6 : IntKind.i64.wrap ((((p * k + r) / q : Nat)) : Int) = (((p * k + r) / q : Nat) : Int) := i64_nat _ (by omega)
      have e7 : IntKind.i64.wrap ((((p * (k + 1) + r) / q : Nat)) : Int) = (((p * (k + 1) + r) / q : Nat) : Int) := i64_nat _ (by omega)
      have HL : Hid ((hoursL (slopeY p q r) k).map encBo ++ [.bool ((p * k + r) / q != (p * (k + 1) + r) / q)] = (hoursL (slopeY p q r) (k + 1)).map encBo) := Lib.hid (by rw [hoursL_succ, List.map_append]; rfl)
      have NE := Lib.hid (nat_neq ((p * k + r) / q) ((p * (k + 1) + r) / q))
      have OWN := Lib.hid hown.out
      have B1 := Lib.hid hbel.out
      have hs1 : Hid (w.heap.size + 1 ≤ wr.heap.size) := Lib.hid (by have := hbel.out.size; rw [s0.out] at this; exact this)
      clear hown hbel
      generalize (p * k + r) / q = A1 at *
      generalize (p * (k + 1) + r) / q = A2 at *
      generalize p * k + r = A3 at *
      generalize p * (k + 1) + r = A4 at *
      generalize p * (k + 1) = A5 at *
      generalize p * k = A6 at *
      obtain ⟨k1, hk1⟩ : ∃ k1, k1 = k + 1 := ⟨_, rfl⟩
      rw [← hk1] at e3 e4
      have Hk1 := Lib.hid hk1
      clear hk1
      obtain ⟨bb, hbb⟩ : ∃ bb, bb = (A1 != A2) := ⟨_, rfl⟩
      rw [← hbb] at HL NE
      have hbi : (((A1 : Nat) : Int) != ((A2 : Nat) : Int)) = bb := NE.out
      clear NE hbb
      go_wp2_with fail
      go_region_held3 (fun W => Below (w.heap.size + 1) W0 W)
        (first
          | exact B1.out.drew
          | exact (B1.out.alloc hs1.out _).drew
          | exact ((B1.out.alloc hs1.out _).drew).grown hgrow (by have := hs1.out; simp; omega) (fun j hj => (OWN.out.lt j hj).1))
        ((refine step_append_lies _ (by rfl) _ _ _ (by rfl) (w.heap.size + 1) 4 i0 (.bool false) 1 1 Try.underlying78 HI.out H0.out H1.out H2.out rfl (by omega) _ k _ (by rfl) ((OWN.out.alloc _).drew) ⟨wr.heap.size, 0, none⟩ 1 1 [.bool bb] (by rfl) (by rfl) (World.news_of_block (cs := #[.bool bb]) (t := 4) (fr := (0, 0)) (heap_alloc_new wr _)) (by simp [Value.oneCell']) (by omega) (by unfold maxLen; omega) (by omega) (by have := hs1.out; simp; omega) (wr.heap.size + 1) (by simp) ?_; intro gg cap w1 hown1 hgrow hat hlt))
      have R1 : Hid (w1.ownsRow (w.heap.size + 1) 4 1 (.slice (some ⟨gg, 0, none⟩) (k + 1) cap) (k + 1) ((hoursL (slopeY p q r) (k + 1)).map encBo)) := Lib.hid (by rw [← HL.out]; exact hown1)
      have R2 : Hid (Below (w.heap.size + 1) W0 w1) := Lib.hid (((B1.out.alloc hs1.out _).drew).grown hgrow (by have := hs1.out; simp; omega) (fun j hj => (OWN.out.lt j hj).1))
      clear hown1 hgrow hat hlt OWN B1 HL
      go_wp2_with fail
      go_roundw
      case rel => exact ⟨k + 1, by omega, by rw [Hk1.out], R1, R2⟩
      case measure =>
        have h9 : k1 = k + 1 := Hk1.out
        simp [intOf]; omega
    · have t1 : decide ((k : Int) < 4 * (q : Int) + 400) = false := decide_eq_false (by omega)
      have hkn : k = 4 * q + 400 := by omega
      have hown2 := hown.out
      obtain ⟨o1, o2⟩ := hown.out
      rcases o2 with ⟨_, o2⟩ | ⟨g, cap, cur, rfl, hg, hh, hc, hc2, hc3, hc4⟩
      · omega
      · have hlt : g < wr.heap.size := (Array.getElem?_eq_some_iff.1 hh).1
        have hat : AtBo wr g 0 (hoursL (slopeY p q r) k) := fun i hi => by
          rw [hoursL_length] at hi
          rw [Nat.zero_add, hown2.cellAt i (by omega)]
          simp [hi, encBo, hoursL_length]
        have hF := slope_isForm Q1 P2 lr
        have hd60 : q / Nat.gcd q p ≤ 60 := Nat.le_trans (Nat.div_le_self _ _) Q2
        obtain ⟨e1, e2⟩ := slope_rows Q1 P2 lr
        have e3 : rowF (slopeY p q r) 0 = slopeF p q r := by rw [e1]; rfl
        have e4 : rowR (slopeY p q r) 0 (q / Nat.gcd q p) = slopeR p q r := by
          rw [e2]; unfold rowR; rw [show (fun j => slopeY p q r (0 + j)) = slopeY p q r from funext fun j => by rw [Nat.zero_add]]
        have HC : Hid (Calls Try.prog 84 #[.slice (some ⟨g, 0, none⟩) k cap] wr fun e w' => e = .returned (.tuple #[.agg #[.string (toS (slopeF p q r)), .string (toS (slopeR p q r))], .bool true]) ∧ Below wr.heap.size wr w') := Lib.hid (by
          have := refFormed_any g k cap (hoursL (slopeY p q r) k) wr (hoursL_length _ _) (by omega) (by omega) (by omega) hat hlt
          rw [formedV_row hF (slope_per Q1 q p rfl) Q1 (by omega), if_pos ⟨by omega, hd60⟩, e3, e4] at this; exact this)
        clear hat hh hc hc2 hc3 hc4 hown hown2 e1 e2 e3 e4 hF hd60 o1 hkn
        obtain ⟨FF, hFF⟩ : ∃ FF, FF = toS (slopeF p q r) := ⟨_, rfl⟩
        obtain ⟨RR, hRR⟩ : ∃ RR, RR = toS (slopeR p q r) := ⟨_, rfl⟩
        rw [← hFF, ← hRR] at HC
        have HFF := Lib.hid hFF
        have HRR := Lib.hid hRR
        clear hFF hRR
        go_wp2_with fail
        refine HC.out.mono ?_
        rintro e w3 ⟨rfl, hb⟩
        have B3 : Hid (Below (w.heap.size + 1) W0 w3) := Lib.hid (hbel.out.trans (hb.mono (by have := hbel.out.size; rw [s0.out] at this; exact this)))
        have ltW : w.heap.size < w.heap.size + 1 := Nat.lt_succ_self _
        obtain ⟨d0, d1, d2, d3⟩ := D0.out
        have l0 : w3.cell? ⟨w.heap.size, 0, none⟩ = some (.string { data := #[] }) := below_at B3.out ltW d0
        have l1 : w3.cell? ⟨w.heap.size, 1, none⟩ = some (.string { data := #[] }) := below_at B3.out ltW d1
        have l2 : w3.frozen? ⟨w.heap.size, 0, none⟩ = false := (B3.out.frozen (p := ⟨w.heap.size, 0, none⟩) ltW).trans d2
        have l3 : w3.frozen? ⟨w.heap.size, 1, none⟩ = false := (B3.out.frozen (p := ⟨w.heap.size, 1, none⟩) ltW).trans d3
        have sz3 := B3.out.size
        rw [s0.out] at sz3
        have kl : w.heap.size < w3.heap.size := by omega
        have hne : ¬ (w.heap.size = w3.heap.size) := by omega
        have hne' : ¬ (w3.heap.size = w.heap.size) := by omega
        have T := Lib.hid (B0.out.trans (B3.out.mono (Nat.le_succ _)))
        clear hb d0 d1 d2 d3 HC D0
        go_wp2_with fail
        exact bodyPost_ret (v := .agg #[.string FF, .string RR]) (by simp [results, Try.results55, go_sem, cell_al, *]) rfl ⟨by rw [HFF.out, HRR.out], ((T.out.setCell (p := ⟨w.heap.size, 0, none⟩) (Nat.le_refl _) _).setCell (p := ⟨w.heap.size, 1, none⟩) (Nat.le_refl _) _).alloc (Below.size ((T.out.setCell (p := ⟨w.heap.size, 0, none⟩) (Nat.le_refl _) _).setCell (p := ⟨w.heap.size, 1, none⟩) (Nat.le_refl _) _)) _⟩
theorem sE_eq : ByteArray.empty = ({ data := #[] } : ByteArray) := rfl
theorem Slope_e (p q r : Int) (w : World) (h : ¬ (1 ≤ q ∧ q ≤ 60 ∧ 0 ≤ p ∧ p ≤ q ∧ 0 ≤ r ∧ r < q)) :
    Calls Try.prog 54 #[.int .i64 p, .int .i64 q, .int .i64 r] w fun e w' => e = .returned (.tuple #[.agg #[.string { data := #[] }, .string { data := #[] }], .int .i64 1]) ∧ Below w.heap.size w w' := Slope_err p q r w h
set_option maxRecDepth 100000 in
set_option maxHeartbeats 2000000 in
theorem TideSlopes_any (p0 q0 r0 : Int) (w : World) :
    Calls Try.prog 12 #[.int .i64 p0, .int .i64 q0, .int .i64 r0] w fun e w' => e = .returned (.bool true) ∧ Below w.heap.size w w' := by
  go_enter Try.func12, Try.ntmps12
  go_wp2_with fail
  go_loopw [0, 1, 2, 7, 8, 9] (fun x y z i _ _ wr => ∃ (k : Nat) (p q r : Int), k ≤ 2 ∧ x = .int .i64 p ∧ y = .int .i64 q ∧ z = .int .i64 r ∧ i = .int .i64 k ∧ Hid (Below w.heap.size w wr)) (fun _ _ _ i _ _ _ => 2 - (intOf i).toNat)
  case atStart => exact ⟨0, p0, q0, r0, by omega, rfl, rfl, rfl, rfl, Lib.hid (Below.refl _ _)⟩
  case round =>
    obtain ⟨k, p, q, r, hk, rfl, rfl, rfl, rfl, T⟩ := hrel
    by_cases hlt : k < 2
    · have hq0 : wrap64 ((IntKind.u64.wrap q).tmod 60) = ((restV q 60 : Nat) : Int) := restV_wrap q 60 (by omega) (by omega)
      have lq := restV_lt q 60 (by omega)
      obtain ⟨Q, hQ⟩ : ∃ Q, Q = restV q 60 + 1 := ⟨_, rfl⟩
      have hq1 : wrap64 (1 + ((restV q 60 : Nat) : Int)) = (Q : Int) := by rw [hQ, show (1 + ((restV q 60 : Nat) : Int)) = ((restV q 60 + 1 : Nat) : Int) by omega]; exact IntWalk.wrap64_in _ ⟨by omega, by omega⟩
      have Q1 : 1 ≤ Q := by omega
      have Q2 : Q ≤ 60 := by omega
      have hp0 : wrap64 ((IntKind.u64.wrap p).tmod ((Q : Int) + 1)) = ((restV p (Q + 1) : Nat) : Int) := by have := restV_wrap p (Q + 1) (by omega) (by omega); rwa [show (((Q + 1 : Nat)) : Int) = (Q : Int) + 1 by omega] at this
      have hr0 := restV_wrap r Q (by omega) (by omega)
      have hw1 : IntKind.u64.wrap ((Q : Int) + 1) = (Q : Int) + 1 := by rw [IntKind.wrap_u64]; omega
      have hw2 : IntKind.u64.wrap (Q : Int) = (Q : Int) := by rw [IntKind.wrap_u64]; omega
      have nz1 : ¬ ((Q : Int) + 1 = 0) := by omega
      have nz2 : ¬ ((Q : Int) = 0) := by omega
      have nz3 : ¬ (Q = 0) := by omega
      clear lq hQ
      by_cases hok : 1 ≤ q ∧ q ≤ 60 ∧ 0 ≤ p ∧ p ≤ q ∧ 0 ≤ r ∧ r < q
      · obtain ⟨hk1, hk2, hk3, hk4, hk5, hk6⟩ := hok
        obtain ⟨pn, hpn⟩ : ∃ n : Nat, p = n := ⟨p.toNat, by omega⟩
        obtain ⟨qn, hqn⟩ : ∃ n : Nat, q = n := ⟨q.toNat, by omega⟩
        obtain ⟨rn, hrn⟩ : ∃ n : Nat, r = n := ⟨r.toNat, by omega⟩
        subst hpn hqn hrn
        have g1 : 1 ≤ qn := by omega
        have g2 : qn ≤ 60 := by omega
        have g3 : pn ≤ qn := by omega
        have g4 : rn < qn := by omega
        have HR : Hid (∀ W, Calls Try.prog 55 #[.int .i64 pn, .int .i64 qn, .int .i64 rn] W fun e w' => e = .returned (.agg #[.string (toS (slopeF pn qn rn)), .string (toS (slopeR pn qn rn))]) ∧ Below W.heap.size W w') := Lib.hid (fun W => refSlope_any pn qn rn W g1 g2 g3 g4)
        have t1 : decide ((qn : Int) < 1) = false := decide_eq_false (by omega)
        have t2 : decide (60 < (qn : Int)) = false := decide_eq_false (by omega)
        have t3 : decide ((pn : Int) < 0) = false := decide_eq_false (by omega)
        have t4 : decide (qn < pn) = false := decide_eq_false (by omega)
        have t5 : decide ((rn : Int) < 0) = false := decide_eq_false (by omega)
        have t6 : decide (qn ≤ rn) = false := decide_eq_false (by omega)
        go_wp2_with fail
        refine (Slope_ok pn qn rn _ g1 g2 g3 g4).mono ?_
        rintro e w1 ⟨rfl, hb⟩
        generalize toS (slopeF pn qn rn) = FF at *
        generalize toS (slopeR pn qn rn) = RR at *
        replace T := Lib.hid (Below.al (Below.andThen T.out hb (Nat.le_refl _)) (Nat.le_refl _) (Obj.cells #[.string FF, .string RR] 23))
        have C := Lib.hid (Two.new w1 FF RR 23)
        clear hb
        go_wp2_with fail
        generalize w1.alloc (Obj.cells #[.string FF, .string RR] 23) = V at *
        generalize w1.heap.size = b1 at *
        have k0 := Kl.cell C.out.1 C.out.2.1
        have k1 := Kl.cell C.out.1 C.out.2.2
        refine wp_region_below (by kernel_rfl) (by kernel_rfl) ?_
        repeat (go_big_quiet_step (first | exact Kl.call (HR.out _) | exact Kl.call (same_self _ _ _)))
        refine wpQuiet_nil ?_
        rintro _ ⟨wq, rfl⟩
        have T9 := Lib.hid (Below.andThen T.out wq.h (Nat.le_refl _))
        clear k0 k1 C T
        go_wp2_with fail
        go_roundw
        case rel => exact ⟨k + 1, _, _, _, by omega, rfl, rfl, rfl, rfl, T9⟩
        case measure => simp [intOf]; omega
      · have hor : q < 1 ∨ (¬ q < 1 ∧ 60 < q) ∨ (¬ q < 1 ∧ ¬ 60 < q ∧ p < 0) ∨ (¬ q < 1 ∧ ¬ 60 < q ∧ ¬ p < 0 ∧ q < p) ∨ (¬ q < 1 ∧ ¬ 60 < q ∧ ¬ p < 0 ∧ ¬ q < p ∧ r < 0) ∨ (¬ q < 1 ∧ ¬ 60 < q ∧ ¬ p < 0 ∧ ¬ q < p ∧ ¬ r < 0 ∧ q ≤ r) := by omega
        go_wp2_with fail
        refine (Slope_e p q r _ hok).mono ?_
        rintro e w1 ⟨rfl, hb⟩
        replace T := Lib.hid (Below.al (Below.andThen T.out hb (Nat.le_refl _)) (Nat.le_refl _) (Obj.cells #[.string { data := #[] }, .string { data := #[] }] 23))
        have C := Lib.hid (Two.new w1 { data := #[] } { data := #[] } 23)
        clear hb hok
        obtain ⟨V, hV⟩ : ∃ V, V = w1.alloc (Obj.cells #[.string { data := #[] }, .string { data := #[] }] 23) := ⟨_, rfl⟩
        obtain ⟨b1, hb1⟩ : ∃ b, b = w1.heap.size := ⟨_, rfl⟩
        rw [← hV] at T C
        rw [← hb1] at C
        rcases hor with g1 | ⟨g1, g2⟩ | ⟨g1, g2, g3⟩ | ⟨g1, g2, g3, g4⟩ | ⟨g1, g2, g3, g4, g5⟩ | ⟨g1, g2, g3, g4, g5, g6⟩
        all_goals
          go_wp2_with fail
          refine (same_self _ _ _).mono ?_
          rintro e w2 ⟨rfl, hb⟩
          rw [← hV] at hb
          replace T := Lib.hid (Below.andThen T.out hb (Nat.le_refl _))
          clear hb hV C hb1
          go_wp2_with fail
          go_roundw
          case rel => exact ⟨k + 1, _, _, _, by omega, rfl, rfl, rfl, rfl, T⟩
          case measure => simp [intOf]; omega
    · go_wp2_with fail
      refine (awake_any _).mono ?_
      rintro e vz ⟨rfl, hb⟩
      replace T := Lib.hid (Below.andThen T.out hb (Nat.le_refl _))
      clear hb
      go_wp2_with fail
      exact bodyPost_ret (v := .bool true) (by simp [results, Try.results12, go_sem]) rfl ⟨rfl, T.out⟩
end Go.Proofs.Ytbhlddfjfcmncaa
