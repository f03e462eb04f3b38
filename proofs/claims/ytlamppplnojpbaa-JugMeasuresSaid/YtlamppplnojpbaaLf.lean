import Derived.Test.YtlamppplnojpbaaLd
import Derived.Laws.AppendOwn
import Derived.ChangeKeysEq
import Derived.Maps.RangeWalk
import Derived.Maps.OwnIn
import Derived.Maps.AppendAt
import Derived.RangeFuncNested
import Derived.RangeFuncBound
import Derived.RangeFuncCalls
import Derived.RangeFuncLeaves
import Derived.Shelf.Abstract
import Derived.Shelf.RegionOpen
import Derived.WalkKit
import Derived.WalkMore
import Derived.OwnWalkIn
import Derived.TacticsInMore
import Derived.LoopNIn
import Derived.LoopIn
import Derived.WalkSpells
import Derived.WalkLawsBesides
import Derived.BigQuiet
import Derived.Deep.QuietTactic
import Derived.Lib.Hide
import Derived.Deep.RegionHeld3
import Derived.StillTailTactics
import Derived.Deep.LoopGhost
import Derived.Maps.OwnSet
import Derived.Lib.IndexAny
import Derived.Sort.QuietThIn
import Derived.Sort.QuietTacIn
import Derived.Sort.BigQuietIn
import Derived.Laws.OwnMore
namespace Go.Proofs.Ytlamppplnojpbaa
open Go.RowKit Go.Shelf
attribute [local go_sem] Oper.semAt_some
theorem tmod_nat (g y : Nat) : (g : Int).tmod (y : Int) = ((g % y : Nat) : Int) := by rw [Int.tmod_eq_emod_of_nonneg (by omega)]; omega
set_option maxRecDepth 100000 in
set_option maxHeartbeats 1000000 in
theorem gcd_any (a b : Nat) (ha : a ≤ 1000) (hb : b ≤ 1000) (w : World) : Calls Try.prog 65 #[.int .i64 (a : Int), .int .i64 (b : Int)] w fun e w' => e = .returned (.int .i64 (Nat.gcd a b : Int)) ∧ Below w.heap.size w w' := by
  go_enter Try.func65, Try.ntmps65
  go_wp2_with fail
  go_loopw [0, 1] (fun gv yv wx => ∃ g y : Nat, g ≤ 1000 ∧ y ≤ 1000 ∧ gv = .int .i64 (g : Int) ∧ yv = .int .i64 (y : Int) ∧ Hid (Nat.gcd g y = Nat.gcd a b) ∧ Hid (Below w.heap.size w wx)) (fun _ yv _ => (intOf yv).toNat)
  case atStart => exact ⟨a, b, ha, hb, rfl, rfl, Lib.hid rfl, Lib.hid (Below.refl _ _)⟩
  case round =>
    obtain ⟨g, y, hg, hy, rfl, rfl, HGC, HBX⟩ := hrel
    by_cases hy0 : 0 < y
    · have hd2 : decide (0 < (y : Int)) = true := decide_eq_true (by omega)
      have hd2n : decide (0 < y) = true := decide_eq_true hy0
      have ht := tmod_nat g y
      have hml := Nat.mod_lt g hy0
      have HN := Lib.hid (show Nat.gcd y (g % y) = Nat.gcd a b by rw [← HGC.out, Nat.gcd_comm g y, Nat.gcd_rec y g, Nat.gcd_comm])
      go_wp2_with fail
      go_quiet (fail)
      go_wp2_with fail
      go_roundw
      case rel => exact ⟨y, g % y, by omega, by omega, rfl, by rw [Int.natCast_emod], HN, Lib.hid (below_drewN HBX.out _)⟩
      case measure => simp [intOf]; omega
    · have hd2 : decide (0 < (y : Int)) = false := decide_eq_false (by omega)
      have hd2n : decide (0 < y) = false := decide_eq_false hy0
      obtain rfl : y = 0 := by omega
      have HG0 := Lib.hid (show g = Nat.gcd a b by rw [← HGC.out, Nat.gcd_zero_right])
      clear HGC
      go_wp2_with fail
      go_ret
      exact ⟨ret_int (by rw [HG0.out]), HBX.out⟩
set_option maxRecDepth 100000 in
set_option maxHeartbeats 1000000 in
theorem Measurable_any (a b k : Nat) (ha : 1 ≤ a ∧ a ≤ 1000) (hb : 1 ≤ b ∧ b ≤ 1000) (hk : k ≤ 1000) (w : World) : Calls Try.prog 43 #[.int .i64 (a : Int), .int .i64 (b : Int), .int .i64 (k : Int)] w fun e w' => e = .returned (.bool (decide (Nat.gcd a b ∣ k))) ∧ Below w.heap.size w w' := by
  have hg := gcd_any a b ha.2 hb.2 w
  have hp : 0 < Nat.gcd a b := Nat.gcd_pos_of_pos_left _ (by omega)
  have hle : Nat.gcd a b ≤ a := Nat.le_of_dvd (by omega) (Nat.gcd_dvd_left a b)
  have hdv : decide (Nat.gcd a b ∣ k) = decide (k % Nat.gcd a b = 0) := by
    rw [Bool.eq_iff_iff, decide_eq_true_eq, decide_eq_true_eq]; exact Nat.dvd_iff_mod_eq_zero
  rw [hdv]
  clear hdv
  generalize Nat.gcd a b = g at *
  have ht : (k : Int) % (g : Int) = ((k % g : Nat) : Int) := by omega
  have HG := Lib.hid hg
  have hm : k % g < g := Nat.mod_lt _ hp
  generalize k % g = m at *
  clear hg
  go_enter Try.func43, Try.ntmps43
  go_wp2_with fail
  refine HG.out.mono ?_
  rintro e w1 ⟨rfl, hb1⟩
  have HB := Lib.hid hb1
  clear hb1 HG
  obtain ⟨E, hE⟩ : ∃ E, decide (m = 0) = E := ⟨_, rfl⟩
  have h0 : ((m : Int) == 0) = E := by rw [← hE, Bool.eq_iff_iff, decide_eq_true_eq]; simp
  have h0' : decide ((m : Int) = 0) = E := by rw [← hE, Bool.eq_iff_iff, decide_eq_true_eq, decide_eq_true_eq]; omega
  have HE := Lib.hid hE
  clear hE
  cases E
  all_goals
    go_wp2_with fail
    go_ret
    exact ⟨ret_bool HE.out.symm, HB.out⟩
theorem hasB_snoc (fs : List Int) (a : Int) (k : Nat) (h : k < fs.length) (hn : a ∉ fs.take k) : a ∈ fs.take (k + 1) ↔ fs[k] = a := by
  rw [List.take_succ_eq_append_getElem h, List.mem_append, List.mem_singleton]
  exact ⟨fun h => (h.resolve_left hn).symm, fun h => .inr h.symm⟩
set_option maxRecDepth 100000 in
set_option maxHeartbeats 1000000 in
theorem Has_any (fs : List Int) (a : Int) (v : Value) (w : World) (hv : SlI w v fs) (hl : fs.length ≤ 1000) : Calls Try.prog 40 #[v, .int .i64 a] w fun e w' => e = .returned (.bool (decide (a ∈ fs))) ∧ Below w.heap.size w w' := by
  obtain ⟨p, c, rfl, hc, hs⟩ := hv
  have HS := Lib.hid hs
  clear hs
  go_enter Try.func40, Try.ntmps40
  go_wp2_with fail
  go_loopw [5] (fun iv wx => ∃ i : Nat, i ≤ fs.length ∧ iv = .int .i64 (i : Int) ∧ Hid (Below w.heap.size w wx) ∧ Hid (a ∉ fs.take i)) (fun iv _ => (fs.length - intOf iv).toNat)
  case atStart => exact ⟨0, by omega, rfl, Lib.hid (Below.refl _ _), Lib.hid (by simp)⟩
  case round =>
    obtain ⟨k, hk, rfl, HB, HN⟩ := hrel
    have kw : IntKind.i64.wrap ((k : Int) + 1) = ((k + 1 : Nat) : Int) := by rw [i64_of _ (by omega) (by omega)]; omega
    by_cases hlt : k < fs.length
    · have hd : decide ((k : Int) < (fs.length : Int)) = true := decide_eq_true (by omega)
      have hdn : decide (k < fs.length) = true := decide_eq_true hlt
      obtain ⟨b, o, rfl, hbl, hi⟩ : ∃ b o, p = some ⟨b, o, none⟩ ∧ b < w.heap.size ∧ IntsAt w b o fs := HS.out.resolve_left (fun e => by rw [e] at hlt; simp at hlt)
      have hx := below_at HB.out hbl (hi.at_ k hlt)
      have HM := Lib.hid (hasB_snoc fs a k hlt HN.out)
      have HME := Lib.hid (show fs[k] = a → decide (a ∈ fs) = true from fun h => decide_eq_true (h ▸ List.getElem_mem hlt))
      clear HN hi
      generalize fs[k] = z at *
      by_cases hz : z = a
      · have d3 : (z == a) = true := by simp [hz]
        have d3' : decide (z = a) = true := by simp [hz]
        have HF := Lib.hid (HME.out hz)
        clear hz HME HM
        go_wp2_with fail
        go_ret
        exact ⟨ret_bool HF.out.symm, HB.out⟩
      · have d3 : (z == a) = false := by simp [hz]
        have d3' : decide (z = a) = false := by simp [hz]
        have HF := Lib.hid (show a ∉ fs.take (k + 1) from fun h => hz (HM.out.1 h))
        clear hz HME HM
        go_wp2_with fail
        go_roundw
        case rel => exact ⟨k + 1, by omega, by simp, HB, HF⟩
        case measure => simp [intOf]; omega
    · have hd : decide ((k : Int) < (fs.length : Int)) = false := decide_eq_false (by omega)
      have hdn : decide (k < fs.length) = false := decide_eq_false hlt
      have HF := Lib.hid (show decide (a ∈ fs) = false by
        have h := HN.out
        rw [List.take_of_length_le (by omega)] at h
        exact decide_eq_false h)
      clear HN
      go_wp2_with fail
      go_ret
      exact ⟨ret_bool HF.out.symm, HB.out⟩
theorem len9' {vs : List Value} (h : vs.length = 9) : ∃ x0 x1 x2 x3 x4 x5 x6 x7 x8, vs = [x0, x1, x2, x3, x4, x5, x6, x7, x8] := len9 h
set_option maxRecDepth 100000 in
set_option maxHeartbeats 2000000 in
theorem pairs_any (L : List Pt) (v u : Value) (m n : Nat) (w : World) (hv : OwnP w m v L) (hu : OwnP w n u L) (hl : L.length ≤ 100000) :
    Calls Try.prog 45 #[v, u] w fun e w' => e = .returned (.bool true) ∧ Below w.heap.size w w' := by
  obtain ⟨sa, sc, rfl, hsa⟩ := hv.open
  obtain ⟨ra, rc, rfl, hra⟩ := hu.open
  have HSA := Lib.hid hsa
  have HRA := Lib.hid hra
  clear hsa hra hv hu
  go_enter Try.func45, Try.ntmps45
  go_wp2_with fail
  go_loopw [5] (fun iv wx => ∃ i : Nat, i ≤ L.length ∧ iv = .int .i64 (i : Int) ∧ Hid (Below w.heap.size w wx)) (fun iv _ => ((L.length : Int) - intOf iv).toNat)
  case atStart => exact ⟨0, by omega, by simp, Lib.hid (Below.refl _ _)⟩
  case round =>
    obtain ⟨i, hi, rfl, HBX⟩ := hrel
    have iw : IntKind.i64.wrap ((i : Int) + 1) = ((i + 1 : Nat) : Int) := by rw [i64_of _ (by omega) (by omega)]; omega
    by_cases hil : i < L.length
    · have hd2 : decide ((i : Int) < (L.length : Int)) = true := decide_eq_true (by omega)
      have hd2n : decide (i < L.length) = true := decide_eq_true hil
      obtain ⟨gs, rfl, hps⟩ : ∃ gs, sa = some ⟨gs, 0, none⟩ ∧ PtsAt w gs 0 L := by
        rcases HSA.out with ⟨_, _, h⟩ | ⟨g, _, h, h2, _⟩
        · rw [h] at hil; exact absurd hil (by simp)
        · exact ⟨g, h, h2⟩
      obtain ⟨gr, rfl, hpr⟩ : ∃ gr, ra = some ⟨gr, 0, none⟩ ∧ PtsAt w gr 0 L := by
        rcases HRA.out with ⟨_, _, h⟩ | ⟨g, _, h, h2, _⟩
        · rw [h] at hil; exact absurd hil (by simp)
        · exact ⟨g, h, h2⟩
      have hcs : ∀ W, Below wr.heap.size wr W → W.cell? ⟨gs, i * 2, none⟩ = some (.int .i64 L[i].1) ∧ W.cell? ⟨gs, i * 2 + 1, none⟩ = some (.int .i64 L[i].2) := fun W hb => by
        have h := (hps.grow HBX.out).grow hb
        exact ⟨by simpa using h.x i hil, by simpa using h.y i hil⟩
      have hcr : ∀ W, Below wr.heap.size wr W → W.cell? ⟨gr, i * 2, none⟩ = some (.int .i64 L[i].1) ∧ W.cell? ⟨gr, i * 2 + 1, none⟩ = some (.int .i64 L[i].2) := fun W hb => by
        have h := (hpr.grow HBX.out).grow hb
        exact ⟨by simpa using h.x i hil, by simpa using h.y i hil⟩
      generalize L[i].1 = px at *
      generalize L[i].2 = py at *
      have HCS := Lib.hid hcs
      have HCR := Lib.hid hcr
      clear hcs hcr hps hpr HSA HRA
      go_wp2_with fail
      refine wp_region_rel (by kernel_rfl) (by kernel_rfl) [17, 18, 19, 20, 21, 22, 23, 24, 25] [LitR (.slice (some ⟨gs, 0, none⟩) L.length sc), LitR (.int .i64 (i : Int)), LitR (.pointer (some ⟨gs, i * 2, none⟩)), LitR (.agg #[.int .i64 px, .int .i64 py]), LitR (.slice (some ⟨gr, 0, none⟩) L.length rc), LitR (.int .i64 (i : Int)), LitR (.pointer (some ⟨gr, i * 2, none⟩)), LitR (.agg #[.int .i64 px, .int .i64 py]), LitR (.bool false)] 9 rfl (List.forall_mem_cons.2 ⟨LitR.stab _, (List.forall_mem_cons.2 ⟨LitR.stab _, (List.forall_mem_cons.2 ⟨LitR.stab _, (List.forall_mem_cons.2 ⟨LitR.stab _, (List.forall_mem_cons.2 ⟨LitR.stab _, (List.forall_mem_cons.2 ⟨LitR.stab _, (List.forall_mem_cons.2 ⟨LitR.stab _, (List.forall_mem_cons.2 ⟨LitR.stab _, (List.forall_mem_cons.2 ⟨LitR.stab _, (fun _ h => nomatch h)⟩)⟩)⟩)⟩)⟩)⟩)⟩)⟩)⟩) ⟨[u17, u18, u19, u20, u21, u22, u23, u24, u25], by simp only [putAll, Act.put, List.setIfInBounds_toArray, List.set_cons_succ, List.set_cons_zero], rfl⟩ ?steps ?fin
      case steps =>
        simp only [relSteps]
        refine ⟨?_, ?_, ?_, ?_, ?_, ?_, ?_, ?_, ?_, trivial⟩
        · rintro vs W K hc hvl hw hK
          obtain ⟨x0, x1, x2, x3, x4, x5, x6, x7, x8, rfl⟩ := len9 hvl
          have HK := Lib.hid hK
          have HC := Lib.hid hc
          have HW := Lib.hid hw
          clear hK hc hw hvl
          simp only [putAll, Act.put, List.setIfInBounds_toArray, List.set_cons_succ, List.set_cons_zero]
          clear HW
          go_wp2_with fail
          have fin := HK.out (.slice (some ⟨gs, 0, none⟩) L.length sc) W (Below.refl _ _) rfl
          simp only [putAll, Act.put, List.setIfInBounds_toArray, List.set_cons_succ, List.set_cons_zero] at fin
          exact fin
        · rintro vs W K hc hvl hw hK
          obtain ⟨x0, x1, x2, x3, x4, x5, x6, x7, x8, rfl⟩ := len9 hvl
          have HK := Lib.hid hK
          have HC := Lib.hid hc
          have HW := Lib.hid hw
          clear hK hc hw hvl
          simp only [putAll, Act.put, List.setIfInBounds_toArray, List.set_cons_succ, List.set_cons_zero]
          clear HW
          go_wp2_with fail
          have fin := HK.out (.int .i64 (i : Int)) W (Below.refl _ _) rfl
          simp only [putAll, Act.put, List.setIfInBounds_toArray, List.set_cons_succ, List.set_cons_zero] at fin
          exact fin
        · rintro vs W K hc hvl hw hK
          obtain ⟨x0, x1, x2, x3, x4, x5, x6, x7, x8, rfl⟩ := len9 hvl
          have HK := Lib.hid hK
          have HC := Lib.hid hc
          have HW := Lib.hid hw
          clear hK hc hw hvl
          have hd0 := HW.out ⟨0, .data⟩ (by simp) rfl
          obtain rfl : x0 = .slice (some ⟨gs, 0, none⟩) L.length sc := rel_get hd0 rfl
          have hd1 := HW.out ⟨1, .data⟩ (by simp) rfl
          obtain rfl : x1 = .int .i64 (i : Int) := rel_get hd1 rfl
          simp only [putAll, Act.put, List.setIfInBounds_toArray, List.set_cons_succ, List.set_cons_zero]
          clear HW hd0 hd1
          go_wp2_with fail
          have fin := HK.out (.pointer (some ⟨gs, i * 2, none⟩)) W (Below.refl _ _) rfl
          simp only [putAll, Act.put, List.setIfInBounds_toArray, List.set_cons_succ, List.set_cons_zero] at fin
          exact fin
        · rintro vs W K hc hvl hw hK
          obtain ⟨x0, x1, x2, x3, x4, x5, x6, x7, x8, rfl⟩ := len9 hvl
          have HK := Lib.hid hK
          have HC := Lib.hid hc
          have HW := Lib.hid hw
          clear hK hc hw hvl
          have hd2 := HW.out ⟨2, .data⟩ (by simp) rfl
          obtain rfl : x2 = .pointer (some ⟨gs, i * 2, none⟩) := rel_get hd2 rfl
          simp only [putAll, Act.put, List.setIfInBounds_toArray, List.set_cons_succ, List.set_cons_zero]
          obtain ⟨c0, c1⟩ := HCS.out W HC.out
          clear HW hd2
          go_wp2_with fail
          have fin := HK.out (.agg #[.int .i64 px, .int .i64 py]) W (Below.refl _ _) rfl
          simp only [putAll, Act.put, List.setIfInBounds_toArray, List.set_cons_succ, List.set_cons_zero] at fin
          exact fin
        · rintro vs W K hc hvl hw hK
          obtain ⟨x0, x1, x2, x3, x4, x5, x6, x7, x8, rfl⟩ := len9 hvl
          have HK := Lib.hid hK
          have HC := Lib.hid hc
          have HW := Lib.hid hw
          clear hK hc hw hvl
          simp only [putAll, Act.put, List.setIfInBounds_toArray, List.set_cons_succ, List.set_cons_zero]
          clear HW
          go_wp2_with fail
          have fin := HK.out (.slice (some ⟨gr, 0, none⟩) L.length rc) W (Below.refl _ _) rfl
          simp only [putAll, Act.put, List.setIfInBounds_toArray, List.set_cons_succ, List.set_cons_zero] at fin
          exact fin
        · rintro vs W K hc hvl hw hK
          obtain ⟨x0, x1, x2, x3, x4, x5, x6, x7, x8, rfl⟩ := len9 hvl
          have HK := Lib.hid hK
          have HC := Lib.hid hc
          have HW := Lib.hid hw
          clear hK hc hw hvl
          simp only [putAll, Act.put, List.setIfInBounds_toArray, List.set_cons_succ, List.set_cons_zero]
          clear HW
          go_wp2_with fail
          have fin := HK.out (.int .i64 (i : Int)) W (Below.refl _ _) rfl
          simp only [putAll, Act.put, List.setIfInBounds_toArray, List.set_cons_succ, List.set_cons_zero] at fin
          exact fin
        · rintro vs W K hc hvl hw hK
          obtain ⟨x0, x1, x2, x3, x4, x5, x6, x7, x8, rfl⟩ := len9 hvl
          have HK := Lib.hid hK
          have HC := Lib.hid hc
          have HW := Lib.hid hw
          clear hK hc hw hvl
          have hd4 := HW.out ⟨4, .data⟩ (by simp) rfl
          obtain rfl : x4 = .slice (some ⟨gr, 0, none⟩) L.length rc := rel_get hd4 rfl
          have hd5 := HW.out ⟨5, .data⟩ (by simp) rfl
          obtain rfl : x5 = .int .i64 (i : Int) := rel_get hd5 rfl
          simp only [putAll, Act.put, List.setIfInBounds_toArray, List.set_cons_succ, List.set_cons_zero]
          clear HW hd4 hd5
          go_wp2_with fail
          have fin := HK.out (.pointer (some ⟨gr, i * 2, none⟩)) W (Below.refl _ _) rfl
          simp only [putAll, Act.put, List.setIfInBounds_toArray, List.set_cons_succ, List.set_cons_zero] at fin
          exact fin
        · rintro vs W K hc hvl hw hK
          obtain ⟨x0, x1, x2, x3, x4, x5, x6, x7, x8, rfl⟩ := len9 hvl
          have HK := Lib.hid hK
          have HC := Lib.hid hc
          have HW := Lib.hid hw
          clear hK hc hw hvl
          have hd6 := HW.out ⟨6, .data⟩ (by simp) rfl
          obtain rfl : x6 = .pointer (some ⟨gr, i * 2, none⟩) := rel_get hd6 rfl
          simp only [putAll, Act.put, List.setIfInBounds_toArray, List.set_cons_succ, List.set_cons_zero]
          obtain ⟨c0, c1⟩ := HCR.out W HC.out
          clear HW hd6
          go_wp2_with fail
          have fin := HK.out (.agg #[.int .i64 px, .int .i64 py]) W (Below.refl _ _) rfl
          simp only [putAll, Act.put, List.setIfInBounds_toArray, List.set_cons_succ, List.set_cons_zero] at fin
          exact fin
        · rintro vs W K hc hvl hw hK
          obtain ⟨x0, x1, x2, x3, x4, x5, x6, x7, x8, rfl⟩ := len9 hvl
          have HK := Lib.hid hK
          have HC := Lib.hid hc
          have HW := Lib.hid hw
          clear hK hc hw hvl
          have hd3 := HW.out ⟨3, .data⟩ (by simp) rfl
          obtain rfl : x3 = .agg #[.int .i64 px, .int .i64 py] := rel_get hd3 rfl
          have hd7 := HW.out ⟨7, .data⟩ (by simp) rfl
          obtain rfl : x7 = .agg #[.int .i64 px, .int .i64 py] := rel_get hd7 rfl
          simp only [putAll, Act.put, List.setIfInBounds_toArray, List.set_cons_succ, List.set_cons_zero]
          have HE := eq48s px py W
          clear HW hd3 hd7
          go_wp2_with fail
          have fin := HK.out (.bool false) W (Below.refl _ _) rfl
          simp only [putAll, Act.put, List.setIfInBounds_toArray, List.set_cons_succ, List.set_cons_zero] at fin
          exact fin
      case fin =>
        intro vs W hc hvl hv
        obtain ⟨x0, x1, x2, x3, x4, x5, x6, x7, x8, rfl⟩ := len9 hvl
        have hd8 := hv 8 (by omega)
        obtain rfl : x8 = .bool false := rel_get hd8 rfl
        clear hd8
        simp only [putAll, Act.put, List.setIfInBounds_toArray, List.set_cons_succ, List.set_cons_zero]
        have HW2 := Lib.hid hc
        clear hc
        go_wp2_with fail
        exact ⟨⟨i + 1, by omega, by simp, Lib.hid (Below.andThen HBX.out HW2.out (Nat.le_refl _))⟩, by simp [intOf]; omega⟩
    · have hd2 : decide ((i : Int) < (L.length : Int)) = false := decide_eq_false (by omega)
      have hd2n : decide (i < L.length) = false := decide_eq_false hil
      go_wp2_with fail
      go_ret
      exact ⟨rfl, HBX.out⟩
end Go.Proofs.Ytlamppplnojpbaa
