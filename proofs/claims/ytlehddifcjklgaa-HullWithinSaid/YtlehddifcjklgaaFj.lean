import Derived.Test.YtlehddifcjklgaaFi
import Derived.Test.YtlehddifcjklgaaFg
import Derived.Maps.OwnIn
import Derived.Maps.OwnSet
import Derived.Maps.AppendAt
import Derived.RangeFuncNested
import Derived.RangeFuncBound
import Derived.RangeFuncCalls
import Derived.RangeFuncLeaves
import Derived.Shelf.Abstract
import Derived.Shelf.RegionOpen
import Derived.WalkKit
import Derived.OwnWalkIn
import Derived.TacticsInMore
import Derived.LoopNIn
import Derived.LoopIn
import Derived.WalkMore
import Derived.Sort.QuietThIn
import Derived.Sort.QuietTacIn
import Derived.Sort.BigQuietIn
import Derived.WalkSpells
import Derived.WalkLawsBesides
import Derived.BigQuiet
import Derived.Deep.QuietTactic
import Derived.Lib.Hide
import Derived.Deep.RegionHeld3
import Derived.StillTailTactics
import Derived.Deep.LoopGhost
import Derived.Lib.IndexAny
namespace Go.Proofs.Ytlehddifcjklgaa
open Go.RowKit Go.Shelf
attribute [local go_sem] Oper.semAt_some
theorem pt_bd2 {qs : List Pt} (h : ∀ q ∈ qs, inR q = true) {k : Nat} (hk : k < qs.length) : Bd 1000 (ptAt qs k).1 ∧ Bd 1000 (ptAt qs k).2 := by
  have := h _ (ptAt_mem hk)
  generalize ptAt qs k = p at *
  unfold inR at this
  simp only [Bool.and_eq_true, decide_eq_true_eq] at this
  unfold Bd; omega
set_option maxRecDepth 100000 in
set_option maxHeartbeats 1000000 in
theorem HullWithin_any (ps : List Pt) (a : Option Addr) (c : Nat) (w : World) (hp : PtsA w a ps c) (_hc : ps.length ≤ c) (_hn : a = none → c = 0) (hl : ps.length ≤ maxLen) (hz : ∀ q ∈ ps, InI q.1 ∧ InI q.2) :
    Calls Try.prog 15 #[.slice a ps.length c] w fun e w' => e = .returned (.bool true) ∧ Below w.heap.size w w' := by
  have hPT := points_any ps a c w hp hl hz
  clear hp _hc _hn hl hz
  go_enter Try.func15, Try.ntmps15
  go_wp2_with fail
  refine hPT.mono ?_
  rintro e w1 ⟨v, qs, rfl, ho, ⟨h3, h12, hin⟩, hb⟩
  have ha : areP qs = true := by
    unfold areP
    rw [Bool.and_eq_true, Bool.and_eq_true, decide_eq_true_eq, decide_eq_true_eq, List.all_eq_true]
    exact ⟨⟨h3, h12⟩, hin⟩
  obtain ⟨g, c2, rfl, hg0, _, hpt, hcc⟩ := ho.someOf (by omega)
  have HAR := Lib.hid (Around_good qs g c2 w1 hpt ha hcc)
  have HP := Lib.hid hpt
  have HIN := Lib.hid hin
  have T1 := Lib.hid hb
  clear hPT ho hb hpt hin
  go_wp2_with fail
  refine HAR.out.mono ?_
  rintro e w2 ⟨L, hL, hsr, hne, hb, hres⟩
  have HP2 := Lib.hid (HP.out.grow hb)
  have T2 := Lib.hid (Below.andThen T1.out hb (Nat.le_refl _))
  clear HAR HP T1 hb
  rcases hres with ⟨h3R, v4, rfl, o4⟩ | ⟨hlt, rfl⟩
  case inr =>
    clear hlt hL hsr hne
    go_wp2_with fail
    refine (awake_any _).mono ?_
    rintro e w3 ⟨rfl, hb⟩
    have T3 := Lib.hid (Below.andThen T2.out hb (Nat.le_refl _))
    clear hb T2
    go_wp2_with fail
    go_ret
    exact ⟨rfl, T3.out⟩
  case inl =>
    obtain ⟨hckA, hturn, hfound, hbef, hagain⟩ := within_facts ha hL hsr h3R
    have hlenA : (arnd (dd L)).length ≤ 12 := (areP_len (chk_areP hckA)).2
    obtain ⟨A, hA⟩ : ∃ A, arnd (dd L) = A := ⟨_, rfl⟩
    rw [hA] at hckA hturn hfound hbef hagain hlenA o4 h3R
    obtain ⟨gh, ch, rfl, hgh, _, hph, hch⟩ := o4.someOf (by omega)
    have HH := Lib.hid hph
    have HZ := Lib.hid (rHull_any A (some ⟨gh, 0, none⟩) ch w2 o4.ptsZ (by omega))
    rw [hckA] at HZ
    have CK := Lib.hid hckA
    have HTU := Lib.hid hturn
    have HFO := Lib.hid hfound
    have HBE := Lib.hid hbef
    have HAG := Lib.hid hagain
    clear hL hsr hne hA o4 hph hckA hturn hfound hbef hagain
    go_wp2_with fail
    refine HZ.out.mono ?_
    rintro e w3 ⟨rfl, hb⟩
    have HP3 := Lib.hid (HP2.out.grow hb)
    have HH3 := Lib.hid (HH.out.grow hb)
    have T3 := Lib.hid (Below.andThen T2.out hb (Nat.le_refl _))
    have HAR := Lib.hid (Around_good A gh ch w3 HH3.out (chk_areP CK.out) hch)
    clear hb HZ HP2 HH T2
    go_wp2_with fail
    refine HAR.out.mono ?_
    rintro e w4 ⟨L', hL', hsr', hne', hb, hres⟩
    have h3' := around_hull CK.out hL' hsr'
    have eA := HAG.out L' hL' hsr' h3'
    rcases hres with ⟨_, v5, rfl, o5⟩ | ⟨hlt, _⟩
    case inr => omega
    rw [eA] at o5
    obtain ⟨a5, c5, rfl, _⟩ := o5.open
    have O5 := Lib.hid o5.pts
    have HP4 := Lib.hid (HP3.out.grow hb)
    have HH4 := Lib.hid (HH3.out.grow hb)
    have T4 := Lib.hid (Below.andThen T3.out hb (Nat.le_refl _))
    have HAA := Lib.hid (area_any A gh ch w4 HH4.out CK.out)
    clear hb HAR HP3 HH3 T3 o5 eA h3' hL' hsr' hne' HAG
    go_wp2_with fail
    refine HAA.out.mono ?_
    rintro e w5 ⟨rfl, hb⟩
    have HP5 := Lib.hid (HP4.out.grow hb)
    have HH5 := Lib.hid (HH4.out.grow hb)
    have T5 := Lib.hid (Below.andThen T4.out hb (Nat.le_refl _))
    have HPR := pairs_any A A a5 (some ⟨gh, 0, none⟩) c5 ch w5 (O5.out.grow hb) (.inr ⟨gh, 0, rfl, HH5.out, hch⟩) rfl (by omega)
    rw [decide_eq_true rfl] at HPR
    have HPR := Lib.hid HPR
    clear hb HP4 HH4 T4 O5 HAA
    go_wp2_with fail
    refine HPR.out.mono ?_
    rintro e w6 ⟨rfl, hb⟩
    have HP6 := Lib.hid (HP5.out.grow hb)
    have HH6 := Lib.hid (HH5.out.grow hb)
    have T6 := Lib.hid (Below.andThen T5.out hb (Nat.le_refl _))
    clear hb HP5 HH5 T5 HPR
    go_wp2_with fail
    have hbdA : ∀ i, i < A.length → Bd 1000 (ptAt A i).1 ∧ Bd 1000 (ptAt A i).2 := fun i hi => by
      have := ptAt_bd (chk_areP CK.out) hi
      exact ⟨this.1.mono (by omega), this.2.mono (by omega)⟩
    go_loopw [10] (fun i wr => ∃ j : Nat, j ≤ A.length ∧ i = .int .i64 (j : Int) ∧ Hid (Below w6.heap.size w6 wr)) (fun i _ => A.length - (intOf i).toNat)
    case atStart => exact ⟨0, by omega, rfl, Lib.hid (Below.refl _ _)⟩
    case round =>
      obtain ⟨j, hj, rfl, HB⟩ := hrel
      by_cases hlt : j < A.length
      · have hd : decide ((j : Int) < (A.length : Int)) = true := decide_eq_true (by omega)
        have hd' : decide (j < A.length) = true := decide_eq_true (by omega)
        have hjn : (j + 1) % A.length < A.length := Nat.mod_lt _ (by omega)
        have hjw : IntKind.i64.wrap ((j : Int) + 1) = (j : Int) + 1 := i64_of _ (by omega) (by omega)
        have hm1 : ((j : Int) + 1).tmod (A.length : Int) = (((j + 1) % A.length : Nat) : Int) := by rw [Int.tmod_eq_emod_of_nonneg (by omega), Int.natCast_emod]; rfl
        have hmw : IntKind.i64.wrap ((((j + 1) % A.length : Nat) : Int)) = (((j + 1) % A.length : Nat) : Int) := i64_of _ (by omega) (by omega)
        obtain ⟨jn, hjne⟩ : ∃ jn, (j + 1) % A.length = jn := ⟨_, rfl⟩
        have HJN := Lib.hid hjne
        rw [hjne] at hjn hm1 hmw
        clear hjne
        go_wp2_with fail
        go_loopw [11, 12] (fun fv kv wx => ∃ (k : Nat) (F : Bool), k ≤ qs.length ∧ kv = .int .i64 (k : Int) ∧ fv = .bool F ∧ Hid (F = (List.range k).any fun t => decide (ptAt qs t = ptAt A j)) ∧ Hid (Below w6.heap.size w6 wx)) (fun _ kv _ => qs.length - (intOf kv).toNat)
        case atStart => exact ⟨0, false, by omega, rfl, rfl, Lib.hid rfl, HB⟩
        case round =>
          clear HB
          obtain ⟨k, F, hk, rfl, rfl, HF, HB⟩ := hrel
          by_cases hlt2 : k < qs.length
          · have hd2 : decide ((k : Int) < (qs.length : Int)) = true := decide_eq_true (by omega)
            have hd2' : decide (k < qs.length) = true := decide_eq_true (by omega)
            have hkw : IntKind.i64.wrap ((k : Int) + 1) = (k : Int) + 1 := i64_of _ (by omega) (by omega)
            have x1 := below_at HB.out HP6.out.lt (HP6.out.x k hlt2)
            have y1 := below_at HB.out HP6.out.lt (HP6.out.y k hlt2)
            have x2 := below_at HB.out HH6.out.lt (HH6.out.x j hlt)
            have y2 := below_at HB.out HH6.out.lt (HH6.out.y j hlt)
            rw [Nat.zero_add, ← ptAt_lt hlt2] at x1 y1
            rw [Nat.zero_add, ← ptAt_lt hlt] at x2 y2
            have HFN := Lib.hid (show ((List.range (k + 1)).any fun t => decide (ptAt qs t = ptAt A j)) = (F || decide (ptAt qs k = ptAt A j)) by rw [List.range_succ, List.any_append, ← HF.out]; simp)
            have HT := HTU.out j k hlt hlt2
            have b1 := Lib.hid (pt_bd2 HIN.out hlt2)
            have b2 := Lib.hid (hbdA j hlt)
            have b3 := Lib.hid (hbdA jn hjn)
            have enx : nx A j = ptAt A jn := by unfold nx; rw [HJN.out]
            rw [enx] at HT
            clear HF enx
            generalize ptAt qs k = P at *
            generalize hpj : ptAt A j = Q at *
            obtain ⟨p1, p2⟩ := P
            obtain ⟨q1, q2⟩ := Q
            dsimp only at x1 y1 x2 y2
            have E58 := fun W => eq58g p1 p2 q1 q2 W
            have HPJ := Lib.hid hpj
            obtain ⟨EQ, hEQ⟩ : ∃ EQ, decide (((p1, p2) : Pt) = (q1, q2)) = EQ := ⟨_, rfl⟩
            rw [hEQ] at HFN E58
            have HT := Lib.hid HT
            have C6 := Lib.hid (And.intro x1 (And.intro y1 (And.intro x2 y2)))
            have u0 := Kl.cell (cell_lt x1) x1
            have u1 := Kl.cell (cell_lt y1) y1
            have u2 := Kl.cell (cell_lt x2) x2
            have u3 := Kl.cell (cell_lt y2) y2
            clear x1 y1 x2 y2 hEQ hpj
            cases F with
            | false =>
              go_wp2_with fail
              refine wp_region_below (by kernel_rfl) (by kernel_rfl) ?_
              repeat (go_big_quiet_step (fail))
              refine wpQuiet_nil ?_
              rintro _ ⟨wq, rfl⟩
              have H7 := Lib.hid (Below.andThen HB.out wq.h (Nat.le_refl _))
              have x1 := below_at wq.h (cell_lt C6.out.1) C6.out.1
              have y1 := below_at wq.h (cell_lt C6.out.2.1) C6.out.2.1
              have x2 := below_at wq.h (cell_lt C6.out.2.2.1) C6.out.2.2.1
              have y2 := below_at wq.h (cell_lt C6.out.2.2.2) C6.out.2.2.2
              generalize wq.W = w7 at *
              clear u0 u1 u2 u3 HB C6
              have x3 := below_at H7.out HH6.out.lt (HH6.out.x jn hjn)
              have y3 := below_at H7.out HH6.out.lt (HH6.out.y jn hjn)
              rw [Nat.zero_add, ← ptAt_lt hjn] at x3 y3
              generalize ptAt A jn = RR at *
              obtain ⟨r1, r2⟩ := RR
              dsimp only at x3 y3
              have v0 := Kl.cell (cell_lt x1) x1
              have v1 := Kl.cell (cell_lt y1) y1
              have v2 := Kl.cell (cell_lt x2) x2
              have v3 := Kl.cell (cell_lt y2) y2
              have v4 := Kl.cell (cell_lt x3) x3
              have v5 := Kl.cell (cell_lt y3) y3
              clear x1 y1 x2 y2 x3 y3
              have HTN := Lib.hid (fun W => Turn_any q1 q2 r1 r2 p1 p2 W b2.out.1 b2.out.2 b3.out.1 b3.out.2 b1.out.1 b1.out.2)
              have HT2 : ¬ turn (q1, q2) (r1, r2) (p1, p2) < 0 := Int.not_lt.2 HT.out
              have dT := decide_eq_false HT2
              clear HT HT2
              generalize turn (q1, q2) (r1, r2) (p1, p2) = TT at *
              go_wp2_with fail
              refine wp_region_below (by kernel_rfl) (by kernel_rfl) ?_
              repeat (go_big_quiet_step (first | (go_at_call 60; exact Kl.call (HTN.out _))))
              refine wpQuiet_nil ?_
              rintro _ ⟨wq, rfl⟩
              have H8 := Lib.hid (Below.andThen H7.out wq.h (Nat.le_refl _))
              generalize wq.W = w8 at *
              clear v0 v1 v2 v3 v4 v5 H7
              go_wp2_with fail
              go_roundw
              case rel => exact ⟨k + 1, EQ, by omega, by simp, rfl, Lib.hid (by rw [HFN.out]; simp), H8⟩
              case measure => simp [intOf]; omega
            | true =>
              go_wp2_with fail
              refine wp_region_below (by kernel_rfl) (by kernel_rfl) ?_
              repeat (go_big_quiet_step (fail))
              refine wpQuiet_nil ?_
              rintro _ ⟨wq, rfl⟩
              have H7 := Lib.hid (Below.andThen HB.out wq.h (Nat.le_refl _))
              have x1 := below_at wq.h (cell_lt C6.out.1) C6.out.1
              have y1 := below_at wq.h (cell_lt C6.out.2.1) C6.out.2.1
              have x2 := below_at wq.h (cell_lt C6.out.2.2.1) C6.out.2.2.1
              have y2 := below_at wq.h (cell_lt C6.out.2.2.2) C6.out.2.2.2
              generalize wq.W = w7 at *
              clear u0 u1 u2 u3 HB C6
              have x3 := below_at H7.out HH6.out.lt (HH6.out.x jn hjn)
              have y3 := below_at H7.out HH6.out.lt (HH6.out.y jn hjn)
              rw [Nat.zero_add, ← ptAt_lt hjn] at x3 y3
              generalize ptAt A jn = RR at *
              obtain ⟨r1, r2⟩ := RR
              dsimp only at x3 y3
              have v0 := Kl.cell (cell_lt x1) x1
              have v1 := Kl.cell (cell_lt y1) y1
              have v2 := Kl.cell (cell_lt x2) x2
              have v3 := Kl.cell (cell_lt y2) y2
              have v4 := Kl.cell (cell_lt x3) x3
              have v5 := Kl.cell (cell_lt y3) y3
              clear x1 y1 x2 y2 x3 y3
              have HTN := Lib.hid (fun W => Turn_any q1 q2 r1 r2 p1 p2 W b2.out.1 b2.out.2 b3.out.1 b3.out.2 b1.out.1 b1.out.2)
              have HT2 : ¬ turn (q1, q2) (r1, r2) (p1, p2) < 0 := Int.not_lt.2 HT.out
              have dT := decide_eq_false HT2
              clear HT HT2
              generalize turn (q1, q2) (r1, r2) (p1, p2) = TT at *
              go_wp2_with fail
              refine wp_region_below (by kernel_rfl) (by kernel_rfl) ?_
              repeat (go_big_quiet_step (first | (go_at_call 60; exact Kl.call (HTN.out _))))
              refine wpQuiet_nil ?_
              rintro _ ⟨wq, rfl⟩
              have H8 := Lib.hid (Below.andThen H7.out wq.h (Nat.le_refl _))
              generalize wq.W = w8 at *
              clear v0 v1 v2 v3 v4 v5 H7
              go_wp2_with fail
              go_roundw
              case rel => exact ⟨k + 1, true, by omega, by simp, rfl, Lib.hid (by rw [HFN.out]; simp), H8⟩
              case measure => simp [intOf]; omega
          · have hd2 : decide ((k : Int) < (qs.length : Int)) = false := decide_eq_false (by omega)
            have hd2' : decide (k < qs.length) = false := decide_eq_false (by omega)
            obtain rfl : F = true := by
              obtain ⟨k', hk', e⟩ := HFO.out j hlt
              rw [HF.out, List.any_eq_true]
              exact ⟨k', List.mem_range.2 (by omega), decide_eq_true e⟩
            have HBEj := HBE.out j hlt
            have x1 := below_at HB.out HH6.out.lt (HH6.out.x j hlt)
            have y1 := below_at HB.out HH6.out.lt (HH6.out.y j hlt)
            have h0 : 0 < A.length := by omega
            have x2 := below_at HB.out HH6.out.lt (HH6.out.x 0 h0)
            have y2 := below_at HB.out HH6.out.lt (HH6.out.y 0 h0)
            rw [Nat.zero_add, ← ptAt_lt hlt] at x1 y1
            rw [← ptAt_lt h0] at x2 y2
            simp only [Nat.zero_mul, Nat.add_zero, Nat.zero_add] at x2 y2
            clear HF
            generalize ptAt A j = P at *
            generalize ptAt A 0 = Q at *
            obtain ⟨p1, p2⟩ := P
            obtain ⟨q1, q2⟩ := Q
            dsimp only at x1 y1 x2 y2
            have HBF := Lib.hid (fun W => Before_any p1 p2 q1 q2 W)
            rw [HBEj] at HBF
            by_cases hj0 : j = 0
            · have hd3 : decide (0 < (j : Int)) = false := decide_eq_false (by omega)
              have hd3' : decide (0 < j) = false := decide_eq_false (by omega)
              go_wp2_with fail
              have u0 := Kl.cell (cell_lt x1) x1
              have u1 := Kl.cell (cell_lt y1) y1
              have u2 := Kl.cell (cell_lt x2) x2
              have u3 := Kl.cell (cell_lt y2) y2
              clear x1 y1 x2 y2
              refine wp_region_below (by kernel_rfl) (by kernel_rfl) ?_
              repeat (go_big_quiet_step (first | (go_at_call 61; exact Kl.call (HBF.out _))))
              refine wpQuiet_nil ?_
              rintro _ ⟨wq, rfl⟩
              have H8 := Lib.hid (Below.andThen HB.out wq.h (Nat.le_refl _))
              generalize wq.W = w8 at *
              clear u0 u1 u2 u3 HB
              go_wp2_with fail
              go_roundw
              case rel => exact ⟨j + 1, by omega, by first | (simp; done) | (simp; omega), H8⟩
              case measure => simp [intOf]; omega
            · have hd3 : decide (0 < (j : Int)) = true := decide_eq_true (by omega)
              have hd3' : decide (0 < j) = true := decide_eq_true (by omega)
              go_wp2_with fail
              have u0 := Kl.cell (cell_lt x1) x1
              have u1 := Kl.cell (cell_lt y1) y1
              have u2 := Kl.cell (cell_lt x2) x2
              have u3 := Kl.cell (cell_lt y2) y2
              clear x1 y1 x2 y2
              refine wp_region_below (by kernel_rfl) (by kernel_rfl) ?_
              repeat (go_big_quiet_step (first | (go_at_call 61; exact Kl.call (HBF.out _))))
              refine wpQuiet_nil ?_
              rintro _ ⟨wq, rfl⟩
              have H8 := Lib.hid (Below.andThen HB.out wq.h (Nat.le_refl _))
              generalize wq.W = w8 at *
              clear u0 u1 u2 u3 HB
              go_wp2_with fail
              go_roundw
              case rel => exact ⟨j + 1, by omega, by first | (simp; done) | (simp; omega), H8⟩
              case measure => simp [intOf]; omega
      · have hd : decide ((j : Int) < (A.length : Int)) = false := decide_eq_false (by omega)
        have hd' : decide (j < A.length) = false := decide_eq_false (by omega)
        have HP7 := Lib.hid (HP6.out.grow HB.out)
        have T7 := Lib.hid (Below.andThen T6.out HB.out (Nat.le_refl _))
        have HAR := Lib.hid (fun P Q R hP hQ hR => tri_in (ps := A) CK.out (P := P) (Q := Q) (R := R) hP hQ hR)
        have hal := area_le CK.out
        have hap := chk_area CK.out
        clear HB HP6 HH6 T6 HFO HBE hbdA
        generalize hw0 : wr = w7 at *
        clear hw0
        generalize area A = AR at *
        go_wp2_with fail
        go_loopw [13] (fun i wr => ∃ t : Nat, 2 ≤ t ∧ t ≤ qs.length ∧ i = .int .i64 (t : Int) ∧ Hid (Below w7.heap.size w7 wr)) (fun i _ => qs.length - (intOf i).toNat)
        case atStart => exact ⟨2, by omega, by omega, rfl, Lib.hid (Below.refl _ _)⟩
        case round =>
          obtain ⟨t, ht2, ht, rfl, HB⟩ := hrel
          by_cases hlt2 : t < qs.length
          · have hd2 : decide ((t : Int) < (qs.length : Int)) = true := decide_eq_true (by omega)
            have hd2' : decide (t < qs.length) = true := decide_eq_true (by omega)
            have hkw : IntKind.i64.wrap ((t : Int) + 1) = (t : Int) + 1 := i64_of _ (by omega) (by omega)
            obtain ⟨t1, ht1⟩ : ∃ t1, t = t1 + 1 := ⟨t - 1, by omega⟩
            obtain ⟨t0, ht0⟩ : ∃ t0, t1 = t0 + 1 := ⟨t1 - 1, by omega⟩
            have e1 : IntKind.i64.wrap ((t : Int) - 2) = (t0 : Int) := by rw [i64_of _ (by omega) (by omega)]; omega
            have e2 : IntKind.i64.wrap ((t : Int) - 1) = (t1 : Int) := by rw [i64_of _ (by omega) (by omega)]; omega
            have e3 : (t : Int) - 2 = (t0 : Int) := by omega
            have e4 : (t : Int) - 1 = (t1 : Int) := by omega
            have l0 : t0 < qs.length := by omega
            have l1 : t1 < qs.length := by omega
            have x0 := below_at HB.out HP7.out.lt (HP7.out.x t0 l0)
            have y0 := below_at HB.out HP7.out.lt (HP7.out.y t0 l0)
            have x1 := below_at HB.out HP7.out.lt (HP7.out.x t1 l1)
            have y1 := below_at HB.out HP7.out.lt (HP7.out.y t1 l1)
            have x2 := below_at HB.out HP7.out.lt (HP7.out.x t hlt2)
            have y2 := below_at HB.out HP7.out.lt (HP7.out.y t hlt2)
            rw [Nat.zero_add, ← ptAt_lt l0] at x0 y0
            rw [Nat.zero_add, ← ptAt_lt l1] at x1 y1
            rw [Nat.zero_add, ← ptAt_lt hlt2] at x2 y2
            have b0 := Lib.hid (pt_bd2 HIN.out l0)
            have b1 := Lib.hid (pt_bd2 HIN.out l1)
            have b2 := Lib.hid (pt_bd2 HIN.out hlt2)
            have p0 := fun i hi => HTU.out i t0 hi l0
            have p1 := fun i hi => HTU.out i t1 hi l1
            have p2 := fun i hi => HTU.out i t hi hlt2
            have k1 := HAR.out _ _ _ p0 p1 p2
            have k2 := HAR.out _ _ _ p0 p2 p1
            have k3 := turn_swap (ptAt qs t0) (ptAt qs t1) (ptAt qs t)
            rw [← Int.neg_neg (turn (ptAt qs t0) (ptAt qs t) (ptAt qs t1)), ← k3] at k2
            clear p0 p1 p2 k3 ht1 ht0
            generalize ptAt qs t0 = X0 at *
            generalize ptAt qs t1 = X1 at *
            generalize ptAt qs t = X2 at *
            obtain ⟨a0, c0⟩ := X0
            obtain ⟨a1, c1⟩ := X1
            obtain ⟨a2, c3⟩ := X2
            dsimp only at x0 y0 x1 y1 x2 y2
            have HTN := Lib.hid (fun W => Turn_any a0 c0 a1 c1 a2 c3 W b0.out.1 b0.out.2 b1.out.1 b1.out.2 b2.out.1 b2.out.2)
            generalize turn (a0, c0) (a1, c1) (a2, c3) = TT at *
            have hn1 : IntKind.i64.wrap (-TT) = -TT := i64_of _ (by omega) (by omega)
            have u0 := Kl.cell (cell_lt x0) x0
            have u1 := Kl.cell (cell_lt y0) y0
            have u2 := Kl.cell (cell_lt x1) x1
            have u3 := Kl.cell (cell_lt y1) y1
            have u4 := Kl.cell (cell_lt x2) x2
            have u5 := Kl.cell (cell_lt y2) y2
            clear x0 y0 x1 y1 x2 y2
            go_wp2_with fail
            refine wp_region_below (by kernel_rfl) (by kernel_rfl) ?_
            repeat (go_big_quiet_step (first | (go_at_call 60; exact Kl.call (HTN.out _))))
            refine wpQuiet_nil ?_
            rintro _ ⟨wq, rfl⟩
            have H8 := Lib.hid (Below.andThen HB.out wq.h (Nat.le_refl _))
            generalize wq.W = w8 at *
            clear u0 u1 u2 u3 u4 u5 HB e1 e2 e3 e4
            go_wp2_with fail
            exact ⟨⟨t + 1, by omega, by omega, by simp, H8⟩, by simp [intOf]; omega⟩
          · have hd2 : decide ((t : Int) < (qs.length : Int)) = false := decide_eq_false (by omega)
            have hd2' : decide (t < qs.length) = false := decide_eq_false (by omega)
            have T8 := Lib.hid (Below.andThen T7.out HB.out (Nat.le_refl _))
            go_wp2_with fail
            refine (awake_any _).mono ?_
            rintro e w9 ⟨rfl, hb⟩
            have T9 := Lib.hid (Below.andThen T8.out hb (Nat.le_refl _))
            clear hb T8
            go_wp2_with fail
            go_ret
            exact ⟨rfl, T9.out⟩
end Go.Proofs.Ytlehddifcjklgaa
