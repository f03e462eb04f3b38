import Derived.Test.YtlemipnplgbckaaPM
import Derived.Laws.AppendOwn
import Derived.ChangeKeysEq
import Derived.Maps.RangeWalk
import Derived.Maps.OwnIn
import Derived.Maps.AppendAt
import Derived.RangeFuncNested
import Derived.RangeFuncBound
import Derived.RangeFuncCalls
import Derived.RangeFuncLeaves
import Derived.Shelf.Abstract
import Derived.Shelf.RegionOpen
import Derived.WalkKit
import Derived.WalkMore
import Derived.OwnWalkIn
import Derived.TacticsInMore
import Derived.LoopNIn
import Derived.LoopIn
import Derived.WalkSpells
import Derived.WalkLawsBesides
import Derived.BigQuiet
import Derived.Deep.QuietTactic
import Derived.Lib.Hide
import Derived.Deep.RegionHeld3
import Derived.StillTailTactics
import Derived.Deep.LoopGhost
import Derived.Maps.OwnSet
import Derived.Lib.IndexAny
import Derived.Sort.QuietThIn
import Derived.Sort.QuietTacIn
import Derived.Sort.BigQuietIn
import Derived.Laws.OwnMore
import Derived.DeepKeys4
import Derived.Maps.Views
import Derived.Maps.OwnOps
import Derived.Laws.OwnMore
import Derived.Deep.DeepCutAuto
import Derived.ChangeKeysEq
namespace Go.Proofs.Ytlemipnplgbckaa
open Go.RowKit Go.Shelf
attribute [local go_sem] Oper.semAt_some
theorem chk_bad2 {ps : List Pt} {k : Nat} (h : k < ps.length) (hb : okP ps[k] = false ∨ ps[k] ∈ ps.take k) : chkP ps = false := by
  have := chk_bad h hb
  unfold errP at this
  cases hc : chkP ps with
  | false => rfl
  | true => rw [hc, if_pos rfl] at this; cases this
set_option maxRecDepth 100000 in
set_option maxHeartbeats 1000000 in
theorem Points_any (ps : List Pt) (v : Value) (w : World) (hv : SlP w v ps) (hl : ps.length ≤ 1000000) :
    Calls Try.prog 16 #[v] w fun e w' => e = .returned (.bool (chkP ps)) ∧ Below w.heap.size w w' := by
  obtain ⟨a, c, rfl, hc, hs⟩ := hv
  have HS := Lib.hid hs
  obtain ⟨E, hE⟩ : ∃ E : Bool, chkP ps = E := ⟨_, rfl⟩
  rw [hE]
  have HE := Lib.hid hE
  have HBAD := Lib.hid (fun k h hb => (hE ▸ chk_bad2 (ps := ps) (k := k) h hb : E = false))
  obtain ⟨n, hn⟩ : ∃ n, ps.length = n := ⟨_, rfl⟩
  have HN := Lib.hid hn
  rw [hn] at hl hc ⊢
  clear hs hE hn
  go_enter Try.func16, Try.ntmps16
  go_wp2_with fail
  go_loopw [3] (fun iv wr => ∃ k : Nat, k ≤ n ∧ iv = .int .i64 (k : Int) ∧ Hid ((∀ p ∈ ps.take k, okP p = true) ∧ (ps.take k).Nodup ∧ Below w.heap.size w wr)) (fun iv _ => (n - intOf iv).toNat)
  case atStart => exact ⟨0, by omega, rfl, Lib.hid ⟨by simp, by simp, Below.refl _ _⟩⟩
  case round =>
    obtain ⟨i, hk, rfl, HB⟩ := hrel
    have iw : IntKind.i64.wrap ((i : Int) + 1) = ((i + 1 : Nat) : Int) := by rw [i64_of _ (by omega) (by omega)]; omega
    by_cases hlt : i < n
    · have hd : decide ((i : Int) < (n : Int)) = true := decide_eq_true (by omega)
      have hdn : decide (i < n) = true := decide_eq_true hlt
      have hlk : i < ps.length := by rw [HN.out]; exact hlt
      obtain ⟨g, o, rfl, hps⟩ : ∃ g o, a = some ⟨g, o, none⟩ ∧ PtsAt w g o ps := HS.out.resolve_left (fun e => by rw [e] at hlk; simp at hlk)
      have HPA := Lib.hid hps
      have hp2 : PtsAt wr g o ps := hps.below HB.out.2.2 hps.lt
      have k0 := hp2.x i hlk
      have k1 := hp2.y i hlk
      have HXI := Lib.hid (And.intro (fun W (hb : Below w.heap.size w W) => (hps.grow hb).x i hlk) (fun W (hb : Below w.heap.size w W) => (hps.grow hb).y i hlk))
      have HTS := Lib.hid (show ps.take (i + 1) = ps.take i ++ [ps[i]] from List.take_succ_eq_append_getElem hlk)
      have HBK := Lib.hid (HBAD.out i hlk)
      clear hps hp2
      generalize ps[i] = pk at *
      clear hlk
      obtain ⟨x, y⟩ := pk
      dsimp only at k0 k1 HXI
      have HIN := Lib.hid (fun (W : World) => In_any x y W)
      obtain ⟨ok, hok⟩ : ∃ ok, okP (x, y) = ok := ⟨_, rfl⟩
      rw [hok] at HIN
      have HOK := Lib.hid hok
      clear hok
      go_wp2_with fail
      refine (HIN.out _).mono ?_
      rintro e w1 ⟨rfl, hb1⟩
      have B1 := Lib.hid (Below.andThen HB.out.2.2 hb1 (Nat.le_refl _))
      clear hb1 HIN k0 k1
      cases ok with
      | false =>
        have HZ := Lib.hid (HBK.out (.inl HOK.out))
        go_wp2_with fail
        go_ret
        exact ⟨ret_bool HZ.out.symm, B1.out⟩
      | true =>
        go_wp2_with fail
        generalize hwr : wr = wi at *
        have HWR := Lib.hid hwr
        clear hwr
        go_loopw [4] (fun jv wr => ∃ j : Nat, j ≤ i ∧ jv = .int .i64 (j : Int) ∧ Hid ((x, y) ∉ ps.take j ∧ Below w.heap.size w wr)) (fun jv _ => (i - intOf jv).toNat)
        case atStart => exact ⟨0, by omega, rfl, Lib.hid ⟨by simp, B1.out⟩⟩
        case round =>
          obtain ⟨j, hj, rfl, HJ⟩ := hrel
          have jw : IntKind.i64.wrap ((j : Int) + 1) = ((j + 1 : Nat) : Int) := by rw [i64_of _ (by omega) (by omega)]; omega
          by_cases hlj : j < i
          · have hdj : decide ((j : Int) < (i : Int)) = true := decide_eq_true (by omega)
            have hdjn : decide (j < i) = true := decide_eq_true hlj
            have hljp : j < ps.length := by rw [HN.out]; omega
            have HXJ := Lib.hid (And.intro (fun W (hb : Below w.heap.size w W) => (HPA.out.grow hb).x j hljp) (fun W (hb : Below w.heap.size w W) => (HPA.out.grow hb).y j hljp))
            have HTJ := Lib.hid (show ps.take (j + 1) = ps.take j ++ [ps[j]] from List.take_succ_eq_append_getElem hljp)
            have HMJ := Lib.hid (show ps[j] ∈ ps.take i from List.mem_take_iff_getElem.2 ⟨j, by omega, rfl⟩)
            generalize ps[j] = pj at *
            clear hljp
            obtain ⟨x', y'⟩ := pj
            dsimp only at HXJ
            obtain ⟨Q, hQ⟩ : ∃ Q, decide ((x, y) = (x', y')) = Q := ⟨_, rfl⟩
            have HEQ := Lib.hid (fun W => hQ ▸ eq28 x y x' y' W)
            have HQ := Lib.hid hQ
            clear hQ
            have hjn : (j : Int) < (n : Int) := by omega
            go_wp2_with fail
            refine wp_region_box (by kernel_rfl) (by kernel_rfl) [22, 23, 24, 25, 26, 27, 28, 29, 30] [(fun v => v = .slice (some ⟨g, o, none⟩) n c), (fun v => v = .int .i64 (i : Int)), (fun v => v = .pointer (some ⟨g, o + i * 2, none⟩)), (fun v => v = .agg #[.int .i64 x, .int .i64 y]), (fun v => v = .slice (some ⟨g, o, none⟩) n c), (fun v => v = .int .i64 (j : Int)), (fun v => v = .pointer (some ⟨g, o + j * 2, none⟩)), (fun v => v = .agg #[.int .i64 x', .int .i64 y']), (fun v => v = .bool Q)] [none, none, none, none, none, none, none, none, none] [none, none, none, none, none, none, none, none, none] 9 rfl (by kernel_rfl) ?tr ⟨[u22, u23, u24, u25, u26, u27, u28, u29, u30], by simp only [putAll, Act.put, List.setIfInBounds_toArray, List.set_cons_succ, List.set_cons_zero], rfl⟩ ?steps ?fin
            case tr =>
              rintro i v h
              rcases i with _ | _ | _ | _ | _ | _ | _ | _ | _ | i
              all_goals first | trivial | (exfalso; rcases h with h | h <;> simp at h)
            case steps =>
              simp only [boxSteps, Nat.reduceAdd, Nat.zero_add, List.getD_cons_succ, List.getD_cons_zero]
              refine ⟨?_, ?_, ?_, ?_, ?_, ?_, ?_, ?_, ?_, trivial⟩
              · rintro vs W K hc hvl hw hK
                obtain ⟨x0, x1, x2, x3, x4, x5, x6, x7, x8, rfl⟩ := len9 hvl
                have HK := Lib.hid hK
                have HC := Lib.hid hc
                have HW := Lib.hid hw
                clear hK hc hw hvl
                simp only [putAll, Act.put, List.setIfInBounds_toArray, List.set_cons_succ, List.set_cons_zero]
                clear HW
                go_wp2_with fail
                have fin := HK.out (.slice (some ⟨g, o, none⟩) n c) W (Below.refl _ _) rfl
                simp only [putAll, Act.put, List.setIfInBounds_toArray, List.set_cons_succ, List.set_cons_zero] at fin
                exact fin
              · rintro vs W K hc hvl hw hK
                obtain ⟨x0, x1, x2, x3, x4, x5, x6, x7, x8, rfl⟩ := len9 hvl
                have HK := Lib.hid hK
                have HC := Lib.hid hc
                have HW := Lib.hid hw
                clear hK hc hw hvl
                simp only [putAll, Act.put, List.setIfInBounds_toArray, List.set_cons_succ, List.set_cons_zero]
                clear HW
                go_wp2_with fail
                have fin := HK.out (.int .i64 (i : Int)) W (Below.refl _ _) rfl
                simp only [putAll, Act.put, List.setIfInBounds_toArray, List.set_cons_succ, List.set_cons_zero] at fin
                exact fin
              · rintro vs W K hc hvl hw hK
                obtain ⟨x0, x1, x2, x3, x4, x5, x6, x7, x8, rfl⟩ := len9 hvl
                have HK := Lib.hid hK
                have HC := Lib.hid hc
                have HW := Lib.hid hw
                clear hK hc hw hvl
                obtain rfl : x0 = .slice (some ⟨g, o, none⟩) n c := box_get (HW.out ⟨0, .data⟩ (by simp) rfl) rfl
                obtain rfl : x1 = .int .i64 (i : Int) := box_get (HW.out ⟨1, .data⟩ (by simp) rfl) rfl
                simp only [putAll, Act.put, List.setIfInBounds_toArray, List.set_cons_succ, List.set_cons_zero]
                have hi1 : (i : Int) < (n : Int) := by omega
                clear HW
                go_wp2_with fail
                have fin := HK.out (.pointer (some ⟨g, o + i * 2, none⟩)) W (Below.refl _ _) rfl
                simp only [putAll, Act.put, List.setIfInBounds_toArray, List.set_cons_succ, List.set_cons_zero] at fin
                exact fin
              · rintro vs W K hc hvl hw hK
                obtain ⟨x0, x1, x2, x3, x4, x5, x6, x7, x8, rfl⟩ := len9 hvl
                have HK := Lib.hid hK
                have HC := Lib.hid hc
                have HW := Lib.hid hw
                clear hK hc hw hvl
                obtain rfl : x2 = .pointer (some ⟨g, o + i * 2, none⟩) := box_get (HW.out ⟨2, .data⟩ (by simp) rfl) rfl
                simp only [putAll, Act.put, List.setIfInBounds_toArray, List.set_cons_succ, List.set_cons_zero]
                have d0 := HXI.out.1 W (Below.andThen HJ.out.2 HC.out (Nat.le_refl _))
                have d1 := HXI.out.2 W (Below.andThen HJ.out.2 HC.out (Nat.le_refl _))
                clear HW
                go_wp2_with fail
                have fin := HK.out (.agg #[.int .i64 x, .int .i64 y]) W (Below.refl _ _) rfl
                simp only [putAll, Act.put, List.setIfInBounds_toArray, List.set_cons_succ, List.set_cons_zero] at fin
                exact fin
              · rintro vs W K hc hvl hw hK
                obtain ⟨x0, x1, x2, x3, x4, x5, x6, x7, x8, rfl⟩ := len9 hvl
                have HK := Lib.hid hK
                have HC := Lib.hid hc
                have HW := Lib.hid hw
                clear hK hc hw hvl
                simp only [putAll, Act.put, List.setIfInBounds_toArray, List.set_cons_succ, List.set_cons_zero]
                clear HW
                go_wp2_with fail
                have fin := HK.out (.slice (some ⟨g, o, none⟩) n c) W (Below.refl _ _) rfl
                simp only [putAll, Act.put, List.setIfInBounds_toArray, List.set_cons_succ, List.set_cons_zero] at fin
                exact fin
              · rintro vs W K hc hvl hw hK
                obtain ⟨x0, x1, x2, x3, x4, x5, x6, x7, x8, rfl⟩ := len9 hvl
                have HK := Lib.hid hK
                have HC := Lib.hid hc
                have HW := Lib.hid hw
                clear hK hc hw hvl
                simp only [putAll, Act.put, List.setIfInBounds_toArray, List.set_cons_succ, List.set_cons_zero]
                clear HW
                go_wp2_with fail
                have fin := HK.out (.int .i64 (j : Int)) W (Below.refl _ _) rfl
                simp only [putAll, Act.put, List.setIfInBounds_toArray, List.set_cons_succ, List.set_cons_zero] at fin
                exact fin
              · rintro vs W K hc hvl hw hK
                obtain ⟨x0, x1, x2, x3, x4, x5, x6, x7, x8, rfl⟩ := len9 hvl
                have HK := Lib.hid hK
                have HC := Lib.hid hc
                have HW := Lib.hid hw
                clear hK hc hw hvl
                obtain rfl : x4 = .slice (some ⟨g, o, none⟩) n c := box_get (HW.out ⟨4, .data⟩ (by simp) rfl) rfl
                obtain rfl : x5 = .int .i64 (j : Int) := box_get (HW.out ⟨5, .data⟩ (by simp) rfl) rfl
                simp only [putAll, Act.put, List.setIfInBounds_toArray, List.set_cons_succ, List.set_cons_zero]
                clear HW
                go_wp2_with fail
                have fin := HK.out (.pointer (some ⟨g, o + j * 2, none⟩)) W (Below.refl _ _) rfl
                simp only [putAll, Act.put, List.setIfInBounds_toArray, List.set_cons_succ, List.set_cons_zero] at fin
                exact fin
              · rintro vs W K hc hvl hw hK
                obtain ⟨x0, x1, x2, x3, x4, x5, x6, x7, x8, rfl⟩ := len9 hvl
                have HK := Lib.hid hK
                have HC := Lib.hid hc
                have HW := Lib.hid hw
                clear hK hc hw hvl
                obtain rfl : x6 = .pointer (some ⟨g, o + j * 2, none⟩) := box_get (HW.out ⟨6, .data⟩ (by simp) rfl) rfl
                simp only [putAll, Act.put, List.setIfInBounds_toArray, List.set_cons_succ, List.set_cons_zero]
                have d0 := HXJ.out.1 W (Below.andThen HJ.out.2 HC.out (Nat.le_refl _))
                have d1 := HXJ.out.2 W (Below.andThen HJ.out.2 HC.out (Nat.le_refl _))
                clear HW
                go_wp2_with fail
                have fin := HK.out (.agg #[.int .i64 x', .int .i64 y']) W (Below.refl _ _) rfl
                simp only [putAll, Act.put, List.setIfInBounds_toArray, List.set_cons_succ, List.set_cons_zero] at fin
                exact fin
              · rintro vs W K hc hvl hw hK
                obtain ⟨x0, x1, x2, x3, x4, x5, x6, x7, x8, rfl⟩ := len9 hvl
                have HK := Lib.hid hK
                have HC := Lib.hid hc
                have HW := Lib.hid hw
                clear hK hc hw hvl
                obtain rfl : x3 = .agg #[.int .i64 x, .int .i64 y] := box_get (HW.out ⟨3, .data⟩ (by simp) rfl) rfl
                obtain rfl : x7 = .agg #[.int .i64 x', .int .i64 y'] := box_get (HW.out ⟨7, .data⟩ (by simp) rfl) rfl
                simp only [putAll, Act.put, List.setIfInBounds_toArray, List.set_cons_succ, List.set_cons_zero]
                have heq := HEQ.out W
                clear HW
                go_wp2_with fail
                have fin := HK.out (.bool Q) W (Below.refl _ _) rfl
                simp only [putAll, Act.put, List.setIfInBounds_toArray, List.set_cons_succ, List.set_cons_zero] at fin
                exact fin
            case fin =>
              rintro vs W hJ
              obtain ⟨x0, x1, x2, x3, x4, x5, x6, x7, x8, rfl⟩ := len9 hJ.ln
              obtain rfl : x8 = .bool Q := box_get (hJ.val 8 rfl) rfl
              have HC := Lib.hid hJ.bl
              clear hJ
              simp only [putAll, Act.put, List.setIfInBounds_toArray, List.set_cons_succ, List.set_cons_zero]
              have HC2 := HC
              clear HC HEQ
              cases Q with
              | true =>
                have HZ := Lib.hid (HBK.out (.inr (by have h := of_decide_eq_true HQ.out; rw [h]; exact HMJ.out)))
                go_wp2_with fail
                go_ret
                exact ⟨ret_bool HZ.out.symm, Below.andThen HJ.out.2 HC2.out (Nat.le_refl _)⟩
              | false =>
                have HN2 := Lib.hid (show (x, y) ∉ ps.take (j + 1) by
                  rw [HTJ.out, List.mem_append, List.mem_singleton]
                  exact fun h => h.elim HJ.out.1 (of_decide_eq_false HQ.out))
                go_wp2_with fail
                exact ⟨⟨j + 1, by omega, by simp, Lib.hid ⟨HN2.out, Below.andThen HJ.out.2 HC2.out (Nat.le_refl _)⟩⟩, by simp [intOf]; omega⟩
          · have hdj : decide ((j : Int) < (i : Int)) = false := decide_eq_false (by omega)
            have hdjn : decide (j < i) = false := decide_eq_false hlj
            obtain rfl : j = i := by omega
            have HN2 := Lib.hid (show (∀ p ∈ ps.take (j + 1), okP p = true) ∧ (ps.take (j + 1)).Nodup by
              rw [HTS.out]
              refine ⟨fun p hp => ?_, ?_⟩
              · rcases List.mem_append.1 hp with hp | hp
                · exact HB.out.1 p hp
                · rw [List.mem_singleton.1 hp]; exact HOK.out
              · rw [List.nodup_append]
                refine ⟨HB.out.2.1, by simp, fun p hp q hq e => ?_⟩
                rw [List.mem_singleton.1 hq] at e
                subst e
                exact HJ.out.1 hp)
            go_wp2_with fail
            exact ⟨⟨j + 1, by omega, by simp, Lib.hid ⟨HN2.out.1, HN2.out.2, HJ.out.2⟩⟩, by simp [intOf]; omega⟩
    · have hd : decide ((i : Int) < (n : Int)) = false := decide_eq_false (by omega)
      have hdn : decide (i < n) = false := decide_eq_false hlt
      obtain rfl : i = n := by omega
      have h1 := HB.out.1
      have h2 := HB.out.2.1
      rw [← HN.out, List.take_length] at h1 h2
      have HZ := Lib.hid (show E = (decide (1 ≤ i) && decide (i ≤ 12)) by
        rw [← HE.out, ← HN.out]
        unfold chkP
        rw [List.all_eq_true.2 h1, decide_eq_true h2, Bool.and_true, Bool.and_true])
      clear h1 h2
      by_cases hz : 1 ≤ i
      · have d1 : decide (1 ≤ (i : Int)) = true := decide_eq_true (by omega)
        have d1n : decide (1 ≤ i) = true := decide_eq_true hz
        by_cases hz2 : i ≤ 12
        · have d2 : decide ((i : Int) ≤ 12) = true := decide_eq_true (by omega)
          have d2n : decide (i ≤ 12) = true := decide_eq_true hz2
          have HZ2 := Lib.hid (show E = true by rw [HZ.out, d1n, d2n]; rfl)
          go_wp2_with fail
          go_ret
          exact ⟨ret_bool HZ2.out.symm, HB.out.2.2⟩
        · have d2 : decide ((i : Int) ≤ 12) = false := decide_eq_false (by omega)
          have d2n : decide (i ≤ 12) = false := decide_eq_false hz2
          have HZ2 := Lib.hid (show E = false by rw [HZ.out, d1n, d2n]; rfl)
          go_wp2_with fail
          go_ret
          exact ⟨ret_bool HZ2.out.symm, HB.out.2.2⟩
      · have d1 : decide (1 ≤ (i : Int)) = false := decide_eq_false (by omega)
        have d1n : decide (1 ≤ i) = false := decide_eq_false hz
        have HZ2 := Lib.hid (show E = false by rw [HZ.out, d1n]; rfl)
        go_wp2_with fail
        go_ret
        exact ⟨ret_bool HZ2.out.symm, HB.out.2.2⟩
end Go.Proofs.Ytlemipnplgbckaa
