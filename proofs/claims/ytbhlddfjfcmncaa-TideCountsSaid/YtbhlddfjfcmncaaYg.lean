import Derived.Test.YtbhlddfjfcmncaaYk
import Derived.Test.YtbhlddfjfcmncaaYb
import Derived.Maps.OwnIn
import Derived.Maps.OwnSet
import Derived.RangeFuncNested
import Derived.RangeFuncBound
import Derived.RangeFuncCalls
import Derived.RangeFuncLeaves
import Derived.Shelf.Abstract
import Derived.Shelf.RegionOpen
import Derived.WalkKit
import Derived.OwnWalkIn
import Derived.TacticsInMore
import Derived.LoopNIn
import Derived.LoopIn
import Derived.WalkSpells
import Derived.WalkLawsBesides
import Derived.BigQuiet
import Derived.Deep.QuietTactic
import Derived.Lib.Hide
import Derived.Deep.RegionHeld3
import Derived.StillTailTactics
import Derived.Lib.MakeNoZero
import Derived.Laws.CopyOwn
import Derived.Deep.RegionLaw
import Derived.Deep.LoopGhost
import Derived.Deep.CutBlock
import Derived.Deep.DeepCutAuto
import Derived.Lib.IndexAny
namespace Go.Proofs.Ytbhlddfjfcmncaa
open Go.RowKit Go.Shelf
attribute [local go_sem] Oper.semAt_some
/-- whatever the number: a number from 0 to m - 1 -/
def restV (x : Int) (m : Nat) : Nat := ((IntKind.u64.wrap x) % (m : Int)).toNat
theorem restV_lt (x : Int) (m : Nat) (hm : 1 ≤ m) : restV x m < m := by
  unfold restV
  have h0 : 0 ≤ IntKind.u64.wrap x := by rw [IntKind.wrap_u64]; omega
  have := Int.emod_lt_of_pos (IntKind.u64.wrap x) (b := (m : Int)) (by omega)
  have := Int.emod_nonneg (IntKind.u64.wrap x) (b := (m : Int)) (by omega)
  omega
theorem restV_wrap (x : Int) (m : Nat) (hm : 1 ≤ m) (hb : m ≤ 1000000000000) : wrap64 ((IntKind.u64.wrap x).tmod (m : Int)) = (restV x m : Int) := by
  have h0 : 0 ≤ IntKind.u64.wrap x := by rw [IntKind.wrap_u64]; omega
  have h1 := restV_lt x m hm
  have e : (IntKind.u64.wrap x).tmod (m : Int) = (restV x m : Int) := by
    unfold restV
    rw [Int.tmod_eq_emod_of_nonneg h0]
    have := Int.emod_nonneg (IntKind.u64.wrap x) (b := (m : Int)) (by omega)
    omega
  rw [e]
  exact IntWalk.wrap64_in _ ⟨by omega, by omega⟩
set_option maxRecDepth 100000 in
set_option maxHeartbeats 1000000 in
theorem Gaps_none (f r : ByteArray) (w : World) (ht : tideB (f, r) = true) (he : endB r = false) :
    Calls Try.prog 36 #[.agg #[.string f, .string r]] w fun e w' => e = .returned (.tuple #[.slice none 0 0, .int .i64 4]) ∧ Below w.heap.size w w' := by
  have E := checkE_ok ht
  obtain ⟨z1, z2, z3⟩ := tideB_size ht
  have HE : Hid (∀ W, Calls Try.prog 77 #[.agg #[.string f, .string r]] W fun e w' => e = .returned (.bool false) ∧ Below W.heap.size W w') := Lib.hid (fun W => by
    have := endless_any f r W; rw [he] at this; exact this)
  clear ht he
  go_enter Try.func36, Try.ntmps36
  go_wp2_with fail
  refine (check_one (w.heap.size + 1) _ f r _ (by simp [cell_al]) (by simp [cell_al]) (size_le _ z1) (size_le _ z2)).mono ?_
  rintro e w1 ⟨rfl, hb1⟩
  have B1 : Hid (Below w.heap.size w w1) := Lib.hid ((((Below.refl _ _).alloc (Nat.le_refl _) _).alloc (by rw [size_al]; omega) _).trans (hb1.mono (by rw [size_al, size_al]; omega)))
  have b0 := below_at hb1 (b := w.heap.size) (o := 0) (v := .string f) (by rw [size_al, size_al]; omega) (by simp [cell_al])
  have b1 := below_at hb1 (b := w.heap.size) (o := 1) (v := .string r) (by rw [size_al, size_al]; omega) (by simp [cell_al])
  clear hb1
  go_wp2_with fail
  refine (HE.out _).mono ?_
  rintro e w2 ⟨rfl, hb⟩
  have B2 := Lib.hid (Below.andThen B1.out hb (Nat.le_refl _))
  clear hb b0 b1 B1
  go_wp2_with fail
  go_ret2
  exact ⟨rfl, B2.out⟩
/-- the gaps of a tide, where there are any, lie in a slice of the caller's -/
theorem Gaps_slice (f r : ByteArray) (w : World) (ht : tideB (f, r) = true) (he : endB r = true) (hne : 1 ≤ (gapsL f r).length) :
    Calls Try.prog 36 #[.agg #[.string f, .string r]] w fun e w' => ∃ (g cap : Nat), e = .returned (.tuple #[.slice (some ⟨g, 0, none⟩) (gapsL f r).length cap, .int .i64 0]) ∧
      (∀ i (h : i < (gapsL f r).length), w'.cell? ⟨g, i, none⟩ = some (.int .i64 ((gapsL f r)[i] : Nat))) ∧ w.heap.size ≤ g ∧ g < w'.heap.size ∧ Below w.heap.size w w' := by
  refine (Gaps_ok f r w ht he (nextO_endless _ _ he)).mono ?_
  rintro e w' ⟨v, rfl, hrow, hb⟩
  obtain ⟨h1, h2⟩ := hrow
  rcases h2 with ⟨_, h2⟩ | ⟨g, cap, cur, rfl, hg, hh, hc, hc2, hc3, hc4⟩
  · omega
  · have hcell : ∀ i (h : i < (gapsL f r).length), w'.cell? ⟨g, i, none⟩ = some (.int .i64 ((gapsL f r)[i] : Nat)) := by
      intro i hi
      rw [cell_of_row _ _ _ _ _ _ hh, ← Array.getElem?_toList]
      have : cur.toList[i]? = (cur.toList.take ((gapsL f r).length * 1))[i]? := by
        rw [List.getElem?_take_of_lt (by omega)]
      rw [this, hc4]
      simp [hi]
    exact ⟨g, cap, rfl, hcell, hg, block_lt_of_cell (hcell 0 hne), hb⟩
theorem slope_tide {p q r : Nat} (hq : 1 ≤ q) (hq2 : q ≤ 60) (hp : p ≤ q) (hr : r < q) : tideB (toS (slopeF p q r), toS (slopeR p q r)) = true := by
  obtain ⟨e1, e2⟩ := slope_rows hq hp hr
  have hd : q / Nat.gcd q p ≤ 60 := Nat.le_trans (Nat.div_le_self _ _) hq2
  have hd1 : 1 ≤ q / Nat.gcd q p := (slope_isForm hq hp hr).pos
  have h := (FormOf.mk' (slope_isForm hq hp hr) (by omega) hd).tide
  have e3 : rowF (slopeY p q r) 0 = slopeF p q r := by rw [e1]; rfl
  have e4 : rowR (slopeY p q r) 0 (q / Nat.gcd q p) = slopeR p q r := by
    rw [e2]; unfold rowR; rw [show (fun j => slopeY p q r (0 + j)) = slopeY p q r from funext fun j => by rw [Nat.zero_add]]
  rw [e3, e4] at h; exact h
theorem ones_zero_end {r : ByteArray} : endB r = decide (1 ≤ ones r.data.toList) := by
  unfold endB
  rw [Bool.eq_iff_iff, ← Lib.contains_iff_indexByte, decide_eq_true_iff, List.contains_iff_mem]
  unfold ones
  constructor
  · intro h
    exact List.length_pos_of_mem (List.mem_filter.2 ⟨h, by rfl⟩)
  · intro h
    obtain ⟨x, hx⟩ := List.exists_mem_of_length_pos h
    have := List.mem_filter.1 hx
    have e : x = 49 := by simpa using this.2
    rw [← e]; exact this.1
set_option maxRecDepth 100000 in
set_option maxHeartbeats 1000000 in
theorem Chris_any (p q r : Int) (w : World) :
    Calls Try.prog 16 #[.int .i64 p, .int .i64 q, .int .i64 r] w fun e w' => e = .returned (.bool true) ∧ Below w.heap.size w w' := by
  have hq0 : wrap64 ((IntKind.u64.wrap q).tmod 60) = ((restV q 60 : Nat) : Int) := restV_wrap q 60 (by omega) (by omega)
  have lq := restV_lt q 60 (by omega)
  obtain ⟨Q, hQ⟩ : ∃ Q, Q = restV q 60 + 1 := ⟨_, rfl⟩
  have hq1 : wrap64 (1 + ((restV q 60 : Nat) : Int)) = (Q : Int) := by rw [hQ, show (1 + ((restV q 60 : Nat) : Int)) = ((restV q 60 + 1 : Nat) : Int) by omega]; exact IntWalk.wrap64_in _ ⟨by omega, by omega⟩
  have Q1 : 1 ≤ Q := by omega
  have Q2 : Q ≤ 60 := by omega
  have hp0 : wrap64 ((IntKind.u64.wrap p).tmod ((Q : Int) + 1)) = ((restV p (Q + 1) : Nat) : Int) := by have := restV_wrap p (Q + 1) (by omega) (by omega); rwa [show (((Q + 1 : Nat)) : Int) = (Q : Int) + 1 by omega] at this
  have lp := restV_lt p (Q + 1) (by omega)
  have hr0 := restV_wrap r Q (by omega) (by omega)
  have lr := restV_lt r Q (by omega)
  obtain ⟨P, hP⟩ : ∃ P, P = restV p (Q + 1) := ⟨_, rfl⟩
  obtain ⟨R, hR⟩ : ∃ R, R = restV r Q := ⟨_, rfl⟩
  rw [← hP] at hp0 lp
  rw [← hR] at hr0 lr
  have P2 : P ≤ Q := by omega
  have hw1 : IntKind.u64.wrap ((Q : Int) + 1) = (Q : Int) + 1 := by rw [IntKind.wrap_u64]; omega
  have hw2 : IntKind.u64.wrap (Q : Int) = (Q : Int) := by rw [IntKind.wrap_u64]; omega
  have hw3 : IntKind.i64.wrap ((Q : Int) + 1) = (Q : Int) + 1 := by rw [i64_of _ (by omega) (by omega)]
  have nz1 : ¬ ((Q : Int) + 1 = 0) := by omega
  have nz2 : ¬ ((Q : Int) = 0) := by omega
  have nz3 : ¬ (Q = 0) := by omega
  have Hq0 := Lib.hid hq0
  have Hq1 := Lib.hid hq1
  clear hq0 hq1 lq hQ hP hR
  go_enter Try.func16, Try.ntmps16
  go_wp2_with fail
  rw [Hq0.out, Hq1.out]
  clear Hq0 Hq1
  go_quiet (fail)
  go_wp2_with fail
  rw [hp0, hr0]
  clear hp0 hr0 hw1 hw2 hw3 nz1 nz2 nz3
  have Q3 : 1 ≤ Q := Q1
  obtain ⟨e1, e2⟩ := slope_rows Q1 P2 lr
  have HTT := Lib.hid (slope_tide Q1 Q2 P2 lr)
  have HO := Lib.hid (slope_ones Q1 P2 lr)
  have HS : Hid ((toS (slopeR P Q R)).size = Q / Nat.gcd Q P) := Lib.hid (by rw [toS_size, e2, marksL_length])
  have HGP : Hid (1 ≤ P → ∃ c, gapsL (toS (slopeF P Q R)) (toS (slopeR P Q R)) = [c] ∨ gapsL (toS (slopeF P Q R)) (toS (slopeR P Q R)) = [c, c + 1]) := Lib.hid (fun hp1 => by
    have ht := slope_tide Q1 Q2 P2 lr
    obtain ⟨z1, z2, z3⟩ := tideB_size ht
    have he : endB (toS (slopeR P Q R)) = true := by
      rw [ones_zero_end, toS_list, slope_ones Q1 P2 lr]
      exact decide_eq_true (Nat.div_pos (Nat.gcd_le_right _ hp1) (gcd_pos_q Q1))
    exact slope_gaps Q1 P2 hp1 lr (nextO_endless _ _ he) (accTo_lt _ _ _ z1 z2))
  have HEN : Hid (endB (toS (slopeR P Q R)) = decide (1 ≤ P)) := Lib.hid (by
    rw [ones_zero_end, toS_list, slope_ones Q1 P2 lr, decide_eq_decide]
    have hg := gcd_pos_q (p := P) Q1
    constructor
    · intro h; rcases Nat.eq_zero_or_pos P with h0 | h0
      · rw [h0, Nat.zero_div] at h; omega
      · exact h0
    · intro h; exact Nat.div_pos (Nat.gcd_le_right _ h) hg)
  refine (Slope_ok P Q R _ Q1 Q2 P2 lr).mono ?_
  rintro e v1 ⟨rfl, hb⟩
  rw [e1] at HTT HGP ⊢
  clear e1 e2
  have T := Lib.hid (Below.al ((below_drewN (Below.refl w.heap.size w) nq).trans (hb.mono (Nat.le_refl _))) (Nat.le_refl _) (Obj.cells #[.string (toS []), .string (toS (slopeR P Q R))] 23))
  have C := Lib.hid (Two.new v1 (toS []) (toS (slopeR P Q R)) 23)
  clear hb
  rw [show slopeR P Q R = (toS (slopeR P Q R)).data.toList from (toS_list _).symm] at HO
  generalize toS (slopeR P Q R) = RR at *
  go_wp2_with fail
  generalize v1.alloc (Obj.cells #[.string (toS []), .string RR] 23) = V1 at *
  generalize v1.heap.size = b1 at *
  obtain ⟨G, hG⟩ : ∃ G, G = Nat.gcd Q P := ⟨_, rfl⟩
  rw [← hG] at HO HS
  have G1 : 1 ≤ G := by rw [hG]; exact gcd_pos_q Q1
  have HG := Lib.hid hG
  clear hG
  go_loopw [9, 10] (fun g x wr => ∃ a b : Nat, g = .int .i64 a ∧ x = .int .i64 b ∧ a ≤ 60 ∧ b ≤ 60 ∧ Hid (Nat.gcd a b = G) ∧ Hid (Below w.heap.size w wr) ∧ Hid (Two wr b1 (toS []) RR)) (fun _ x _ => (intOf x).toNat)
  case atStart => exact ⟨Q, P, rfl, rfl, Q2, by omega, Lib.hid HG.out.symm, T, C⟩
  case round =>
    clear T C
    obtain ⟨a, b, rfl, rfl, ha, hb, hg, T, C⟩ := hrel
    by_cases hb0 : 0 < b
    · have q1 : ((a : Int)).tmod (b : Int) = ((a % b : Nat) : Int) := by rw [← Int.ofNat_tmod]
      have q2 : ¬ ((b : Int) = 0) := by omega
      have q3 : ¬ (b = 0) := by omega
      have lt : a % b < b := Nat.mod_lt _ hb0
      have hg2 : Hid (Nat.gcd b (a % b) = G) := Lib.hid (by rw [Nat.gcd_comm, ← Nat.gcd_rec, Nat.gcd_comm, hg.out])
      generalize a % b = m at *
      go_wp2_with fail
      go_quiet (fail)
      go_wp2_with fail
      go_roundw
      case rel => exact ⟨b, m, rfl, rfl, by omega, by omega, hg2, Lib.hid (below_drewN T.out _), Lib.hid (C.out.below (below_drewN (Below.refl _ _) _))⟩
      case measure => simp [intOf]; omega
    · have hb1 : b = 0 := by omega
      have hgG : a = G := by rw [← hg.out, hb1, Nat.gcd_zero_right]
      subst hgG
      clear hg
      obtain ⟨d0', d1⟩ := C.out.2
      go_wp2_with fail
      go_loopw [11, 12] (fun n i wx => ∃ k : Nat, k ≤ RR.size ∧ i = .int .i64 k ∧ n = .int .i64 (ones (RR.data.toList.take k)) ∧ wx = wr) (fun _ i _ => RR.size - (intOf i).toNat)
      case atStart => exact ⟨0, Nat.zero_le _, rfl, rfl, rfl⟩
      case round =>
        obtain ⟨k, hk, rfl, rfl, rfl⟩ := hrel
        have hle : ones (RR.data.toList.take k) ≤ k := by
          unfold ones; exact Nat.le_trans (List.length_filter_le _ _) (List.length_take_le _ _)
        have hs60 : RR.size ≤ 60 := (tideB_size HTT.out).2.1
        by_cases hlt : k < RR.size
        · have hs1 := Lib.hid (ones_take_succ RR k hlt)
          have e9 := Lib.hid (u8_eq49 RR[k])
          cases hb9 : (((RR[k].toNat : Nat) : Int) == 49)
          all_goals
            have HB := Lib.hid hb9
            go_wp2_with fail
            go_roundw
            case rel => exact ⟨k + 1, by omega, rfl, by rw [hs1.out, ← e9.out, HB.out]; simp, trivial⟩
            case measure => simp [intOf]; omega
        · have HE : Hid (ones (RR.data.toList.take k) = P / a) := Lib.hid (by rw [List.take_of_length_le (by simp; omega), HO.out])
          rw [HE.out]
          clear hle hk
          have q1 : ((Q : Int)).tdiv (a : Int) = ((Q / a : Nat) : Int) := by rw [← Int.ofNat_tdiv]
          have q2 : ((P : Int)).tdiv (a : Int) = ((P / a : Nat) : Int) := by rw [← Int.ofNat_tdiv]
          have q3 : ¬ ((a : Int) = 0) := by omega
          have q4 : ¬ (a = 0) := by omega
          have q5 : Q / a ≤ 60 := Nat.le_trans (Nat.div_le_self _ _) Q2
          have q6 : P / a ≤ 60 := Nat.le_trans (Nat.div_le_self _ _) (by omega)
          rw [← HS.out] at q1 q5
          have q7 : IntKind.i64.wrap (RR.size : Int) = (RR.size : Int) := i64_nat _ (by omega)
          have q8 : IntKind.i64.wrap ((P / a : Nat) : Int) = ((P / a : Nat) : Int) := i64_nat _ (by omega)
          clear HE HO HS
          generalize P / a = pa at *
          have z1 : ((toS []).toList == []) = true := by kernel_rfl
          go_wp2_with fail
          go_quiet (fail)
          go_wp2_with fail
          have T2 := Lib.hid (below_drewN T.out nq)
          have HTW := HTT.out
          clear z1 q1 q2 q3 q4 q5 q6 q7 q8 T C d0' d1 HTT HG
          by_cases hP : P = 0
          · have he : endB RR = false := by rw [HEN.out]; exact decide_eq_false (by omega)
            have hP2 : ((P : Int) == 0) = true := by rw [hP]; rfl
            refine (Gaps_none (toS []) RR _ HTW he).mono ?_
            rintro e w3 ⟨rfl, hb9⟩
            have T3 := Lib.hid (Below.andThen T2.out hb9 (Nat.le_refl _))
            clear hb9 T2 he
            go_wp2_with fail
            refine (awake_any _).mono ?_
            rintro e vz ⟨rfl, hb9⟩
            have T4 := Lib.hid (Below.andThen T3.out hb9 (Nat.le_refl _))
            clear hb9 T3
            go_wp2_with fail
            exact bodyPost_ret (v := .bool true) (by simp [results, Try.results16, go_sem]) rfl ⟨rfl, T4.out⟩
          · have hP2 : ((P : Int) == 0) = false := beq_eq_false_iff_ne.2 (by omega)
            have hP1 : 1 ≤ P := by omega
            have he : endB RR = true := by rw [HEN.out]; exact decide_eq_true (by omega)
            obtain ⟨c, hc | hc⟩ := HGP.out hP1
            · have GS := Gaps_slice (toS []) RR (wr.drewN nq) HTW he (by rw [hc]; exact Nat.le_refl 1)
              rw [hc] at GS
              refine GS.mono ?_
              rintro e w3 ⟨g, cap, rfl, hcell, hg1, hg2, hb9⟩
              have T3 := Lib.hid (Below.andThen T2.out hb9 (Nat.le_refl _))
              clear hb9 T2 he hcell GS
              go_wp2_with fail
              refine wp_region_below (by kernel_rfl) (by kernel_rfl) ?_
              repeat (go_big_quiet_step (exact Kl.call (awake_any _)))
              refine wpQuiet_nil ?_
              rintro _ ⟨wq, rfl⟩
              have T5 := Lib.hid (Below.andThen T3.out wq.h (Nat.le_refl _))
              go_wp2_with fail
              exact bodyPost_ret (v := .bool true) (by simp [results, Try.results16, go_sem]) rfl ⟨rfl, T5.out⟩
            · have GS := Gaps_slice (toS []) RR (wr.drewN nq) HTW he (by rw [hc]; exact Nat.le_succ 1)
              rw [hc] at GS
              refine GS.mono ?_
              rintro e w3 ⟨g, cap, rfl, hcell, hg1, hg2, hb9⟩
              have T3 := Lib.hid (Below.andThen T2.out hb9 (Nat.le_refl _))
              have x0 := hcell 0 (by exact Nat.succ_pos 1)
              have x1 := hcell 1 (by exact Nat.lt_succ_self 1)
              have hc60 : c ≤ 1000 := by
                have hm : c ∈ gapsL (toS []) RR := by rw [hc]; simp
                unfold gapsL gapsOf at hm
                have := (List.mem_filter.1 hm).1
                rw [List.mem_range] at this; omega
              have x0' : w3.cell? ⟨g, 0, none⟩ = some (.int .i64 (c : Int)) := x0
              have x1' : w3.cell? ⟨g, 1, none⟩ = some (.int .i64 ((c : Int) + 1)) := by rw [x1]; simp
              have k0 := Kl.cell hg2 x0'
              have k1 := Kl.cell hg2 x1'
              have xe : (((c : Int) + 1) == ((c : Int) + 1)) = true := by simp
              clear x0 x1 hcell GS T2 he hb9
              go_wp2_with fail
              refine wp_region_below (by kernel_rfl) (by kernel_rfl) ?_
              repeat (go_big_quiet_step (exact Kl.call (awake_any _)))
              refine wpQuiet_nil ?_
              rintro _ ⟨wq, rfl⟩
              have T5 := Lib.hid (Below.andThen T3.out wq.h (Nat.le_refl _))
              go_wp2_with fail
              exact bodyPost_ret (v := .bool true) (by simp [results, Try.results16, go_sem]) rfl ⟨rfl, T5.out⟩
end Go.Proofs.Ytbhlddfjfcmncaa
