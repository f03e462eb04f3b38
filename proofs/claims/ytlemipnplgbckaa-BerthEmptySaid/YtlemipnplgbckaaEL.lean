import Derived.Test.YtlemipnplgbckaaEM
import Derived.Test.YtlemipnplgbckaaMF
import Derived.Laws.AppendOwn
import Derived.ChangeKeysEq
import Derived.Maps.RangeWalk
import Derived.Maps.OwnIn
import Derived.Maps.AppendAt
import Derived.RangeFuncNested
import Derived.RangeFuncBound
import Derived.RangeFuncCalls
import Derived.RangeFuncLeaves
import Derived.Shelf.Abstract
import Derived.Shelf.RegionOpen
import Derived.WalkKit
import Derived.WalkMore
import Derived.OwnWalkIn
import Derived.TacticsInMore
import Derived.LoopNIn
import Derived.LoopIn
import Derived.WalkSpells
import Derived.WalkLawsBesides
import Derived.BigQuiet
import Derived.Deep.QuietTactic
import Derived.Lib.Hide
import Derived.Deep.RegionHeld3
import Derived.StillTailTactics
import Derived.Deep.LoopGhost
import Derived.Maps.OwnSet
import Derived.Lib.IndexAny
import Derived.Sort.QuietThIn
import Derived.Sort.QuietTacIn
import Derived.Sort.BigQuietIn
import Derived.Laws.OwnMore
import Derived.DeepKeys4
import Derived.Maps.Views
import Derived.Maps.OwnOps
import Derived.Deep.DeepCutAuto
import Derived.Shelf.Bits.Mul64
import Derived.Shelf.LaysM
namespace Go.Proofs.Ytlemipnplgbckaa
open Go.RowKit Go.Shelf
attribute [local go_sem] Oper.semAt_some
theorem flatT_get : ∀ (ts : List (Nat × Nat × Nat)) (k : Nat) (h : k < ts.length), (flatT ts)[k * 3]? = some (.int .i64 (ts[k].1 : Int)) ∧ (flatT ts)[k * 3 + 1]? = some (.int .i64 (ts[k].2.1 : Int)) ∧ (flatT ts)[k * 3 + 2]? = some (.int .i64 (ts[k].2.2 : Int))
  | t :: ts, 0, _ => by simp [flatT]
  | t :: ts, k + 1, h => by
    have := flatT_get ts k (by simpa using h)
    rw [show (k + 1) * 3 = k * 3 + 3 by omega]
    simpa [flatT] using this
theorem ownT_cell {W : World} {n₀ g c N : Nat} {ts : List (Nat × Nat × Nat)} (hN : ts.length = N) (h : W.ownsRow n₀ 71 3 (.slice (some ⟨g, 0, none⟩) N c) N (flatT ts)) (k : Nat) (hk : k < ts.length) : W.cell? ⟨g, k * 3, none⟩ = some (.int .i64 (ts[k].1 : Int)) ∧ W.cell? ⟨g, k * 3 + 1, none⟩ = some (.int .i64 (ts[k].2.1 : Int)) ∧ W.cell? ⟨g, k * 3 + 2, none⟩ = some (.int .i64 (ts[k].2.2 : Int)) := by
  obtain ⟨f0, f1, f2⟩ := flatT_get ts k hk
  exact ⟨(h.cellAt (k * 3) (by omega)).trans f0, (h.cellAt (k * 3 + 1) (by omega)).trans f1, (h.cellAt (k * 3 + 2) (by omega)).trans f2⟩
theorem part3_0 (a b c : Int) (W : World) : (part 3 #[.int .i64 a, .int .i64 b, .int .i64 c] 0).run Try.prog W = .ok (.int .i64 a) W := by kernel_rfl
theorem part3_1 (a b c : Int) (W : World) : (part 3 #[.int .i64 a, .int .i64 b, .int .i64 c] 1).run Try.prog W = .ok (.int .i64 b) W := by kernel_rfl
theorem part3_2 (a b c : Int) (W : World) : (part 3 #[.int .i64 a, .int .i64 b, .int .i64 c] 2).run Try.prog W = .ok (.int .i64 c) W := by kernel_rfl
theorem eq71 (a b c : Int) (W : World) : (Op.equalIn 10000 71 (.agg #[.int .i64 a, .int .i64 b, .int .i64 c]) (.agg #[.int .i64 a, .int .i64 b, .int .i64 c])).run Try.prog W = .ok true W := by
  obtain ⟨i, hi⟩ := info3i
  refine (run_equalIn_array (P := Try.prog) W 9999 _ _ Try.underlying71 hi).trans ?_
  rw [cells3]
  simp only [List.range, List.range.loop, Op.eqItems, Sem.run_bind, Nat.mul_one, part3_0, Result.andThen_ok, eqI3]
  simp [go_sem, eqI3]
theorem ownT_at {W : World} {n₀ k : Nat} {v : Value} {xs : List Value} (h : W.ownsRow n₀ 71 3 v k xs) (hk : 0 < k) : ∃ g c, v = .slice (some ⟨g, 0, none⟩) k c ∧ k ≤ c := by
  rcases h.2 with ⟨_, h0⟩ | ⟨g, cap, cur, e, _, _, hc, _⟩
  · omega
  · exact ⟨_, _, e, hc⟩
set_option maxRecDepth 100000 in
set_option maxHeartbeats 1000000 in
theorem BerthEmpty_any (zs : List Pt) (v : Value) (w : World) (hv : SlP w v zs) (hl : zs.length ≤ 9223372036854775807) :
    Calls Try.prog 8 #[v] w fun e w' => e = .returned (.bool true) ∧ Below w.heap.size w w' := by
  have HT := Lib.hid (tame_any zs v w hv hl)
  have hok := tameF_ok zs
  have HOK := Lib.hid hok
  obtain ⟨⟨h1, h12⟩, hb, _⟩ := chkP_iff.1 hok
  have HX := Lib.hid (And.intro h12 hb)
  clear hok h1 h12 hb hv hl
  generalize tameF zs = X at *
  go_enter Try.func8, Try.ntmps8
  go_wp2_with fail
  refine HT.out.mono ?_
  rintro e w1 ⟨s, rfl, ho, h1⟩
  have HSL := Lib.hid (slp_own ho)
  obtain ⟨a1, c1, rfl, _⟩ := OwnP.open ho
  have B1 := Lib.hid h1
  have HEM := Lib.hid (Empty_ok X _ w1 HSL.out HOK.out)
  have HRE := Lib.hid (fun W (hb : Below w1.heap.size w1 W) => rEmpty_any X _ W (HSL.out.grow hb) HX.out.1 HX.out.2)
  obtain ⟨n, hn⟩ : ∃ n, X.length = n := ⟨_, rfl⟩
  obtain ⟨T, hT⟩ : ∃ T, emptyL X = T := ⟨_, rfl⟩
  rw [hT] at HEM HRE
  rw [hn] at HEM HRE ⊢
  obtain ⟨N, hN⟩ : ∃ N, T.length = N := ⟨_, rfl⟩
  have HN := Lib.hid hN
  have HNB := Lib.hid (show N ≤ 1000000 by
    rw [← hN, ← hT]
    have h := trL_len X.length HX.out.1
    exact Nat.le_trans (List.length_filter_le _ _) (by omega))
  rw [hN] at HEM HRE
  clear ho h1 HSL HT hn hT hN
  go_wp2_with fail
  refine HEM.out.mono ?_
  rintro e w2 ⟨t, rfl, hot, h2⟩
  obtain ⟨a2, c2, rfl⟩ := ownT_slice hot
  have B2 := Lib.hid h2
  have OT := Lib.hid hot
  clear hot h2 HEM
  go_wp2_with fail
  refine (HRE.out w2 B2.out).mono ?_
  rintro e w3 ⟨u, rfl, hou, h3⟩
  obtain ⟨a3, c3, rfl⟩ := ownT_slice hou
  have B3 := Lib.hid (Below.andThen B1.out (Below.andThen B2.out h3 (Nat.le_refl _)) (Nat.le_refl _))
  have OT3 := Lib.hid (own_grow OT.out h3)
  have OU := Lib.hid hou
  have hnb := HNB.out
  clear hou h3 HRE OT
  go_wp2_with fail
  go_loopw [7] (fun kv wr => ∃ k : Nat, k ≤ N ∧ kv = .int .i64 (k : Int) ∧ Hid (Below w3.heap.size w3 wr)) (fun kv _ => (N - intOf kv).toNat)
  case atStart => exact ⟨0, by omega, rfl, Lib.hid (Below.refl _ _)⟩
  case round =>
    obtain ⟨k, hk, rfl, HB⟩ := hrel
    have kw : IntKind.i64.wrap ((k : Int) + 1) = ((k + 1 : Nat) : Int) := by rw [i64_of _ (by omega) (by omega)]; omega
    by_cases hlt : k < N
    · have hd : decide ((k : Int) < (N : Int)) = true := decide_eq_true (by omega)
      have hdn : decide (k < N) = true := decide_eq_true hlt
      obtain ⟨g, cg, e1, hcg⟩ := ownT_at OT3.out (by omega)
      obtain ⟨h, ch, e2, hch⟩ := ownT_at OU.out (by omega)
      cases e1; cases e2
      have hkt : k < T.length := by rw [HN.out]; exact hlt
      have HCT := Lib.hid (fun W (hb : Below wr.heap.size wr W) => ownT_cell HN.out (own_grow (own_grow OT3.out HB.out) hb) k hkt)
      have HCU := Lib.hid (fun W (hb : Below wr.heap.size wr W) => ownT_cell HN.out (own_grow (own_grow OU.out HB.out) hb) k hkt)
      generalize T[k] = tk at *
      obtain ⟨x, y, z⟩ := tk
      dsimp only at HCT HCU
      have hki : (k : Int) < (N : Int) := by omega
      have HKI := Lib.hid hki
      have HEQ := Lib.hid (fun W => eq71 (x : Int) (y : Int) (z : Int) W)
      clear hkt hki
      go_wp2_with fail
      refine wp_region_box (by kernel_rfl) (by kernel_rfl) [32, 33, 34, 35, 36, 37, 38, 39, 40] [(fun v => v = .slice (some ⟨g, 0, none⟩) N c2), (fun v => v = .int .i64 (k : Int)), (fun v => v = .pointer (some ⟨g, k * 3, none⟩)), (fun v => v = .agg #[.int .i64 (x : Int), .int .i64 (y : Int), .int .i64 (z : Int)]), (fun v => v = .slice (some ⟨h, 0, none⟩) N c3), (fun v => v = .int .i64 (k : Int)), (fun v => v = .pointer (some ⟨h, k * 3, none⟩)), (fun v => v = .agg #[.int .i64 (x : Int), .int .i64 (y : Int), .int .i64 (z : Int)]), (fun v => v = .bool false)] [none, none, none, none, none, none, none, none, none] [none, none, none, none, none, none, none, none, none] 9 rfl (by kernel_rfl) ?tr ⟨_, (putAll_self _ _).symm, rfl⟩ ?steps ?fin
      case tr =>
        rintro i v h
        rcases i with _ | _ | _ | _ | _ | _ | _ | _ | _ | i
        all_goals first | trivial | (exfalso; rcases h with h | h <;> simp at h)
      case steps =>
        simp only [boxSteps, Nat.reduceAdd, Nat.zero_add, List.getD_cons_succ, List.getD_cons_zero]
        refine ⟨?_, ?_, ?_, ?_, ?_, ?_, ?_, ?_, ?_, trivial⟩
        · rintro vs W K hc hvl hw hK
          obtain ⟨x0, x1, x2, x3, x4, x5, x6, x7, x8, rfl⟩ := len9 hvl
          have HK := Lib.hid hK
          have HC := Lib.hid hc
          have HW := Lib.hid hw
          clear hK hc hw hvl
          simp only [putAll, Act.put, List.setIfInBounds_toArray, List.set_cons_succ, List.set_cons_zero]
          clear HW
          go_wp2_with fail
          have fin := HK.out (.slice (some ⟨g, 0, none⟩) N c2) W (Below.refl _ _) rfl
          simp only [putAll, Act.put, List.setIfInBounds_toArray, List.set_cons_succ, List.set_cons_zero] at fin
          exact fin
        · rintro vs W K hc hvl hw hK
          obtain ⟨x0, x1, x2, x3, x4, x5, x6, x7, x8, rfl⟩ := len9 hvl
          have HK := Lib.hid hK
          have HC := Lib.hid hc
          have HW := Lib.hid hw
          clear hK hc hw hvl
          simp only [putAll, Act.put, List.setIfInBounds_toArray, List.set_cons_succ, List.set_cons_zero]
          clear HW
          go_wp2_with fail
          have fin := HK.out (.int .i64 (k : Int)) W (Below.refl _ _) rfl
          simp only [putAll, Act.put, List.setIfInBounds_toArray, List.set_cons_succ, List.set_cons_zero] at fin
          exact fin
        · rintro vs W K hc hvl hw hK
          obtain ⟨x0, x1, x2, x3, x4, x5, x6, x7, x8, rfl⟩ := len9 hvl
          have HK := Lib.hid hK
          have HC := Lib.hid hc
          have HW := Lib.hid hw
          clear hK hc hw hvl
          obtain rfl : x0 = .slice (some ⟨g, 0, none⟩) N c2 := box_get (HW.out ⟨0, .data⟩ (by simp) rfl) rfl
          obtain rfl : x1 = .int .i64 (k : Int) := box_get (HW.out ⟨1, .data⟩ (by simp) rfl) rfl
          simp only [putAll, Act.put, List.setIfInBounds_toArray, List.set_cons_succ, List.set_cons_zero]
          have hi1 := HKI.out
          clear HW
          go_wp2_with fail
          have fin := HK.out (.pointer (some ⟨g, k * 3, none⟩)) W (Below.refl _ _) rfl
          simp only [putAll, Act.put, List.setIfInBounds_toArray, List.set_cons_succ, List.set_cons_zero] at fin
          exact fin
        · rintro vs W K hc hvl hw hK
          obtain ⟨x0, x1, x2, x3, x4, x5, x6, x7, x8, rfl⟩ := len9 hvl
          have HK := Lib.hid hK
          have HC := Lib.hid hc
          have HW := Lib.hid hw
          clear hK hc hw hvl
          obtain rfl : x2 = .pointer (some ⟨g, k * 3, none⟩) := box_get (HW.out ⟨2, .data⟩ (by simp) rfl) rfl
          simp only [putAll, Act.put, List.setIfInBounds_toArray, List.set_cons_succ, List.set_cons_zero]
          have d0 := (HCT.out W HC.out).1
          have d1 := (HCT.out W HC.out).2.1
          have d2 := (HCT.out W HC.out).2.2
          clear HW
          go_wp2_with fail
          have fin := HK.out (.agg #[.int .i64 (x : Int), .int .i64 (y : Int), .int .i64 (z : Int)]) W (Below.refl _ _) rfl
          simp only [putAll, Act.put, List.setIfInBounds_toArray, List.set_cons_succ, List.set_cons_zero] at fin
          exact fin
        · rintro vs W K hc hvl hw hK
          obtain ⟨x0, x1, x2, x3, x4, x5, x6, x7, x8, rfl⟩ := len9 hvl
          have HK := Lib.hid hK
          have HC := Lib.hid hc
          have HW := Lib.hid hw
          clear hK hc hw hvl
          simp only [putAll, Act.put, List.setIfInBounds_toArray, List.set_cons_succ, List.set_cons_zero]
          clear HW
          go_wp2_with fail
          have fin := HK.out (.slice (some ⟨h, 0, none⟩) N c3) W (Below.refl _ _) rfl
          simp only [putAll, Act.put, List.setIfInBounds_toArray, List.set_cons_succ, List.set_cons_zero] at fin
          exact fin
        · rintro vs W K hc hvl hw hK
          obtain ⟨x0, x1, x2, x3, x4, x5, x6, x7, x8, rfl⟩ := len9 hvl
          have HK := Lib.hid hK
          have HC := Lib.hid hc
          have HW := Lib.hid hw
          clear hK hc hw hvl
          simp only [putAll, Act.put, List.setIfInBounds_toArray, List.set_cons_succ, List.set_cons_zero]
          clear HW
          go_wp2_with fail
          have fin := HK.out (.int .i64 (k : Int)) W (Below.refl _ _) rfl
          simp only [putAll, Act.put, List.setIfInBounds_toArray, List.set_cons_succ, List.set_cons_zero] at fin
          exact fin
        · rintro vs W K hc hvl hw hK
          obtain ⟨x0, x1, x2, x3, x4, x5, x6, x7, x8, rfl⟩ := len9 hvl
          have HK := Lib.hid hK
          have HC := Lib.hid hc
          have HW := Lib.hid hw
          clear hK hc hw hvl
          obtain rfl : x4 = .slice (some ⟨h, 0, none⟩) N c3 := box_get (HW.out ⟨4, .data⟩ (by simp) rfl) rfl
          obtain rfl : x5 = .int .i64 (k : Int) := box_get (HW.out ⟨5, .data⟩ (by simp) rfl) rfl
          simp only [putAll, Act.put, List.setIfInBounds_toArray, List.set_cons_succ, List.set_cons_zero]
          have hi1 := HKI.out
          clear HW
          go_wp2_with fail
          have fin := HK.out (.pointer (some ⟨h, k * 3, none⟩)) W (Below.refl _ _) rfl
          simp only [putAll, Act.put, List.setIfInBounds_toArray, List.set_cons_succ, List.set_cons_zero] at fin
          exact fin
        · rintro vs W K hc hvl hw hK
          obtain ⟨x0, x1, x2, x3, x4, x5, x6, x7, x8, rfl⟩ := len9 hvl
          have HK := Lib.hid hK
          have HC := Lib.hid hc
          have HW := Lib.hid hw
          clear hK hc hw hvl
          obtain rfl : x6 = .pointer (some ⟨h, k * 3, none⟩) := box_get (HW.out ⟨6, .data⟩ (by simp) rfl) rfl
          simp only [putAll, Act.put, List.setIfInBounds_toArray, List.set_cons_succ, List.set_cons_zero]
          have d0 := (HCU.out W HC.out).1
          have d1 := (HCU.out W HC.out).2.1
          have d2 := (HCU.out W HC.out).2.2
          clear HW
          go_wp2_with fail
          have fin := HK.out (.agg #[.int .i64 (x : Int), .int .i64 (y : Int), .int .i64 (z : Int)]) W (Below.refl _ _) rfl
          simp only [putAll, Act.put, List.setIfInBounds_toArray, List.set_cons_succ, List.set_cons_zero] at fin
          exact fin
        · rintro vs W K hc hvl hw hK
          obtain ⟨x0, x1, x2, x3, x4, x5, x6, x7, x8, rfl⟩ := len9 hvl
          have HK := Lib.hid hK
          have HC := Lib.hid hc
          have HW := Lib.hid hw
          clear hK hc hw hvl
          obtain rfl : x3 = .agg #[.int .i64 (x : Int), .int .i64 (y : Int), .int .i64 (z : Int)] := box_get (HW.out ⟨3, .data⟩ (by simp) rfl) rfl
          obtain rfl : x7 = .agg #[.int .i64 (x : Int), .int .i64 (y : Int), .int .i64 (z : Int)] := box_get (HW.out ⟨7, .data⟩ (by simp) rfl) rfl
          simp only [putAll, Act.put, List.setIfInBounds_toArray, List.set_cons_succ, List.set_cons_zero]
          have heq := HEQ.out W
          clear HW
          go_wp2_with fail
          have fin := HK.out (.bool false) W (Below.refl _ _) rfl
          simp only [putAll, Act.put, List.setIfInBounds_toArray, List.set_cons_succ, List.set_cons_zero] at fin
          exact fin
      case fin =>
        rintro vs W hJ
        obtain ⟨x0, x1, x2, x3, x4, x5, x6, x7, x8, rfl⟩ := len9 hJ.ln
        obtain rfl : x8 = .bool false := box_get (hJ.val 8 rfl) rfl
        have HC := Lib.hid hJ.bl
        clear hJ
        simp only [putAll, Act.put, List.setIfInBounds_toArray, List.set_cons_succ, List.set_cons_zero]
        go_wp2_with fail
        exact ⟨⟨k + 1, by omega, rfl, Lib.hid (Below.andThen HB.out HC.out (Nat.le_refl _))⟩, by simp [intOf]; omega⟩
    · have hd : decide ((k : Int) < (N : Int)) = false := decide_eq_false (by omega)
      have hdn : decide (k < N) = false := decide_eq_false hlt
      go_wp2_with fail
      refine (awake_any wr).mono ?_
      rintro e w9 ⟨rfl, h9⟩
      have B9 := Lib.hid (Below.andThen B3.out (Below.andThen HB.out h9 (Nat.le_refl _)) (Nat.le_refl _))
      clear h9
      go_wp2_with fail
      go_ret
      exact ⟨rfl, B9.out⟩
end Go.Proofs.Ytlemipnplgbckaa
