import Derived.Test.YtlemipnplgbckaaMA
import Derived.Laws.AppendOwn
import Derived.ChangeKeysEq
import Derived.Maps.RangeWalk
import Derived.Maps.OwnIn
import Derived.Maps.AppendAt
import Derived.RangeFuncNested
import Derived.RangeFuncBound
import Derived.RangeFuncCalls
import Derived.RangeFuncLeaves
import Derived.Shelf.Abstract
import Derived.Shelf.RegionOpen
import Derived.WalkKit
import Derived.WalkMore
import Derived.OwnWalkIn
import Derived.TacticsInMore
import Derived.LoopNIn
import Derived.LoopIn
import Derived.WalkSpells
import Derived.WalkLawsBesides
import Derived.BigQuiet
import Derived.Deep.QuietTactic
import Derived.Lib.Hide
import Derived.Deep.RegionHeld3
import Derived.StillTailTactics
import Derived.Deep.LoopGhost
import Derived.Maps.OwnSet
import Derived.Lib.IndexAny
import Derived.Sort.QuietThIn
import Derived.Sort.QuietTacIn
import Derived.Sort.BigQuietIn
import Derived.Laws.OwnMore
import Derived.DeepKeys4
import Derived.Maps.Views
import Derived.Maps.OwnOps
import Derived.Deep.DeepCutAuto
namespace Go.Proofs.Ytlemipnplgbckaa
open Go.RowKit Go.Shelf
attribute [local go_sem] Oper.semAt_some
theorem info3 : (Try.prog.info? 3).map (fun i => (i.zero, i.size, i.bytes)) = some (some (.int .i64 0), 1, 8) := by kernel_rfl
theorem info28 : (Try.prog.info? 28).map (fun i => (i.zero, i.size, i.bytes)) = some (some (.agg #[.int .i64 0, .int .i64 0]), 2, 16) := by kernel_rfl
theorem cells3 : Try.prog.cellsOf 3 = 1 := by kernel_rfl
theorem info3i : ∃ i, Try.prog.info? 3 = some i := by
  cases h : Try.prog.info? 3 with
  | some i => exact ⟨i, rfl⟩
  | none =>
    have : (Try.prog.info? 3).isSome = true := by kernel_rfl
    rw [h] at this; cases this
theorem eqI3 (a b : Int) (W : World) : (Op.equalIn 9999 3 (.int .i64 a) (.int .i64 b)).run Try.prog W = .ok (a == b) W := by
  first
    | kernel_rfl
    | simp [Op.equalIn, go_sem]
theorem part20 (a b : Int) (W : World) : (part 3 #[.int .i64 a, .int .i64 b] 0).run Try.prog W = .ok (.int .i64 a) W := by kernel_rfl
theorem part21 (a b : Int) (W : World) : (part 3 #[.int .i64 a, .int .i64 b] 1).run Try.prog W = .ok (.int .i64 b) W := by kernel_rfl
theorem eq28 (x0 x1 g0 g1 : Int) (W : World) : (Op.equalIn 10000 28 (.agg #[.int .i64 x0, .int .i64 x1]) (.agg #[.int .i64 g0, .int .i64 g1])).run Try.prog W = .ok (decide ((x0, x1) = (g0, g1))) W := by
  obtain ⟨i, hi⟩ := info3i
  refine (run_equalIn_array (P := Try.prog) W 9999 _ _ Try.underlying28 hi).trans ?_
  rw [cells3]
  simp only [List.range, List.range.loop, Op.eqItems, Sem.run_bind, Nat.mul_one, part20, Result.andThen_ok, eqI3]
  by_cases h0 : x0 = g0
  · by_cases h1 : x1 = g1
    · simp [h0, h1, go_sem, eqI3]
    · simp [h0, h1, go_sem, eqI3]
  · simp [h0, go_sem]
set_option maxRecDepth 100000 in
set_option maxHeartbeats 600000 in
theorem index_any (ps : List Pt) (v : Value) (p q : Int) (w : World) (hv : SlP w v ps) (hl : ps.length ≤ 1000000) :
    Calls Try.prog 82 #[v, .agg #[.int .i64 p, .int .i64 q]] w fun e w' => ∃ r : Int, e = .returned (.int .i64 r) ∧ (0 ≤ r ↔ (p, q) ∈ ps) ∧ Below w.heap.size w w' := by
  obtain ⟨a, c, rfl, hc, hs⟩ := hv
  have HS := Lib.hid hs
  have rV := Row.new w 28 [.int .i64 p, .int .i64 q]
  have bV := Below.al (Below.refl w.heap.size w) (Nat.le_refl _) (.cells #[.int .i64 p, .int .i64 q] 28)
  have RV := Lib.hid rV
  have BV := Lib.hid bV
  clear hs rV bV
  go_enter Try.func82, Try.ntmps82
  go_wp2_with fail
  obtain ⟨V, hV⟩ : ∃ V, V = w.alloc (.cells #[.int .i64 p, .int .i64 q] 28) := ⟨_, rfl⟩
  rw [← hV] at RV BV ⊢
  clear hV
  go_loopw [8] (fun iv wr => ∃ k : Nat, k ≤ ps.length ∧ iv = .int .i64 (k : Int) ∧ Hid ((p, q) ∉ ps.take k ∧ Below V.heap.size V wr)) (fun iv _ => (ps.length - intOf iv).toNat)
  case atStart => exact ⟨0, by omega, rfl, Lib.hid ⟨by simp, Below.refl _ _⟩⟩
  case round =>
    obtain ⟨k, hk, rfl, HB⟩ := hrel
    have kw : IntKind.i64.wrap ((k : Int) + 1) = ((k + 1 : Nat) : Int) := by rw [i64_of _ (by omega) (by omega)]; omega
    by_cases hlt : k < ps.length
    · have hd : decide ((k : Int) < (ps.length : Int)) = true := decide_eq_true (by omega)
      have hdn : decide (k < ps.length) = true := decide_eq_true hlt
      obtain ⟨g, o, rfl, hps⟩ : ∃ g o, a = some ⟨g, o, none⟩ ∧ PtsAt w g o ps := HS.out.resolve_left (fun e => by rw [e] at hlt; simp at hlt)
      have hp2 : PtsAt wr g o ps := (hps.below BV.out hps.lt).below HB.out.2 (Nat.lt_of_lt_of_le hps.lt BV.out.size)
      have HCP := Lib.hid (fun (W : World) (hb : Below wr.heap.size wr W) => And.intro ((hp2.grow hb).x k hlt) ((hp2.grow hb).y k hlt))
      have HRV := Lib.hid (RV.out.below HB.out.2 RV.out.lt)
      have HT := Lib.hid (show ps.take (k + 1) = ps.take k ++ [ps[k]] from List.take_succ_eq_append_getElem hlt)
      have HM := Lib.hid (show (p, q) = ps[k] → (p, q) ∈ ps from fun h => by rw [h]; exact List.getElem_mem hlt)
      clear hps hp2
      generalize ps[k] = pk at *
      obtain ⟨x, y⟩ := pk
      obtain ⟨E, hE⟩ : ∃ E, decide ((p, q) = (x, y)) = E := ⟨_, rfl⟩
      have HEQ := Lib.hid (fun W => eq28 p q x y W)
      rw [hE] at HEQ
      have HE := Lib.hid hE
      clear hE
      go_wp2_with fail
      refine wp_region_box (by kernel_rfl) (by kernel_rfl) [11, 12, 13, 14, 15, 16] [(fun v => v = .agg #[.int .i64 p, .int .i64 q]), (fun v => v = .slice (some ⟨g, o, none⟩) ps.length c), (fun v => v = .int .i64 (k : Int)), (fun v => v = .pointer (some ⟨g, o + k * 2, none⟩)), (fun v => v = .agg #[.int .i64 x, .int .i64 y]), (fun v => v = .bool E)] [none, none, none, none, none, none] [none, none, none, none, none, none] 6 rfl (by kernel_rfl) ?tr ⟨[u11, u12, u13, u14, u15, u16], by simp only [putAll, Act.put, List.setIfInBounds_toArray, List.set_cons_succ, List.set_cons_zero], rfl⟩ ?steps ?fin
      case tr =>
        rintro i v h
        rcases i with _ | _ | _ | _ | _ | _ | i
        all_goals first | trivial | (exfalso; rcases h with h | h <;> simp at h)
      case steps =>
        simp only [boxSteps, Nat.reduceAdd, Nat.zero_add, List.getD_cons_succ, List.getD_cons_zero]
        refine ⟨?_, ?_, ?_, ?_, ?_, ?_, trivial⟩
        · rintro vs W K hc hvl hw hK
          obtain ⟨x0, x1, x2, x3, x4, x5, rfl⟩ := len6 hvl
          have HK := Lib.hid hK
          have HC := Lib.hid hc
          have HW := Lib.hid hw
          clear hK hc hw hvl
          simp only [putAll, Act.put, List.setIfInBounds_toArray, List.set_cons_succ, List.set_cons_zero]
          have rr := HRV.out.below HC.out HRV.out.lt
          have k0 := rr.cell 0
          have k1 := rr.cell 1
          simp only [List.getElem?_cons_zero, List.getElem?_cons_succ] at k0 k1
          clear rr
          clear HW
          go_wp2_with fail
          have fin := HK.out (.agg #[.int .i64 p, .int .i64 q]) W (Below.refl _ _) rfl
          simp only [putAll, Act.put, List.setIfInBounds_toArray, List.set_cons_succ, List.set_cons_zero] at fin
          exact fin
        · rintro vs W K hc hvl hw hK
          obtain ⟨x0, x1, x2, x3, x4, x5, rfl⟩ := len6 hvl
          have HK := Lib.hid hK
          have HC := Lib.hid hc
          have HW := Lib.hid hw
          clear hK hc hw hvl
          simp only [putAll, Act.put, List.setIfInBounds_toArray, List.set_cons_succ, List.set_cons_zero]
          clear HW
          go_wp2_with fail
          have fin := HK.out (.slice (some ⟨g, o, none⟩) ps.length c) W (Below.refl _ _) rfl
          simp only [putAll, Act.put, List.setIfInBounds_toArray, List.set_cons_succ, List.set_cons_zero] at fin
          exact fin
        · rintro vs W K hc hvl hw hK
          obtain ⟨x0, x1, x2, x3, x4, x5, rfl⟩ := len6 hvl
          have HK := Lib.hid hK
          have HC := Lib.hid hc
          have HW := Lib.hid hw
          clear hK hc hw hvl
          simp only [putAll, Act.put, List.setIfInBounds_toArray, List.set_cons_succ, List.set_cons_zero]
          clear HW
          go_wp2_with fail
          have fin := HK.out (.int .i64 (k : Int)) W (Below.refl _ _) rfl
          simp only [putAll, Act.put, List.setIfInBounds_toArray, List.set_cons_succ, List.set_cons_zero] at fin
          exact fin
        · rintro vs W K hc hvl hw hK
          obtain ⟨x0, x1, x2, x3, x4, x5, rfl⟩ := len6 hvl
          have HK := Lib.hid hK
          have HC := Lib.hid hc
          have HW := Lib.hid hw
          clear hK hc hw hvl
          obtain rfl : x1 = .slice (some ⟨g, o, none⟩) ps.length c := box_get (HW.out ⟨1, .data⟩ (by simp) rfl) rfl
          obtain rfl : x2 = .int .i64 (k : Int) := box_get (HW.out ⟨2, .data⟩ (by simp) rfl) rfl
          simp only [putAll, Act.put, List.setIfInBounds_toArray, List.set_cons_succ, List.set_cons_zero]
          clear HW
          go_wp2_with fail
          have fin := HK.out (.pointer (some ⟨g, o + k * 2, none⟩)) W (Below.refl _ _) rfl
          simp only [putAll, Act.put, List.setIfInBounds_toArray, List.set_cons_succ, List.set_cons_zero] at fin
          exact fin
        · rintro vs W K hc hvl hw hK
          obtain ⟨x0, x1, x2, x3, x4, x5, rfl⟩ := len6 hvl
          have HK := Lib.hid hK
          have HC := Lib.hid hc
          have HW := Lib.hid hw
          clear hK hc hw hvl
          obtain rfl : x3 = .pointer (some ⟨g, o + k * 2, none⟩) := box_get (HW.out ⟨3, .data⟩ (by simp) rfl) rfl
          simp only [putAll, Act.put, List.setIfInBounds_toArray, List.set_cons_succ, List.set_cons_zero]
          obtain ⟨k0, k1⟩ := HCP.out W HC.out
          clear HW
          go_wp2_with fail
          have fin := HK.out (.agg #[.int .i64 x, .int .i64 y]) W (Below.refl _ _) rfl
          simp only [putAll, Act.put, List.setIfInBounds_toArray, List.set_cons_succ, List.set_cons_zero] at fin
          exact fin
        · rintro vs W K hc hvl hw hK
          obtain ⟨x0, x1, x2, x3, x4, x5, rfl⟩ := len6 hvl
          have HK := Lib.hid hK
          have HC := Lib.hid hc
          have HW := Lib.hid hw
          clear hK hc hw hvl
          obtain rfl : x0 = .agg #[.int .i64 p, .int .i64 q] := box_get (HW.out ⟨0, .data⟩ (by simp) rfl) rfl
          obtain rfl : x4 = .agg #[.int .i64 x, .int .i64 y] := box_get (HW.out ⟨4, .data⟩ (by simp) rfl) rfl
          simp only [putAll, Act.put, List.setIfInBounds_toArray, List.set_cons_succ, List.set_cons_zero]
          have HQ := HEQ.out W
          clear HW
          go_wp2_with fail
          have fin := HK.out (.bool E) W (Below.refl _ _) rfl
          simp only [putAll, Act.put, List.setIfInBounds_toArray, List.set_cons_succ, List.set_cons_zero] at fin
          exact fin
      case fin =>
        rintro vs W hJ
        obtain ⟨x0, x1, x2, x3, x4, x5, rfl⟩ := len6 hJ.ln
        obtain rfl : x5 = .bool E := box_get (hJ.val 5 rfl) rfl
        have HC := Lib.hid hJ.bl
        clear hJ
        simp only [putAll, Act.put, List.setIfInBounds_toArray, List.set_cons_succ, List.set_cons_zero]
        cases E with
        | true =>
          have HIN := Lib.hid (HM.out (of_decide_eq_true HE.out))
          go_wp2_with fail
          go_ret
          exact ⟨(k : Int), rfl, ⟨fun _ => HIN.out, fun _ => by omega⟩, Below.andThen (Below.andThen BV.out HB.out.2 (Nat.le_refl _)) HC.out (Nat.le_refl _)⟩
        | false =>
          have HN := Lib.hid (show (p, q) ∉ ps.take (k + 1) by rw [HT.out, List.mem_append, List.mem_singleton]; exact fun h => h.elim HB.out.1 (of_decide_eq_false HE.out))
          go_wp2_with fail
          exact ⟨⟨k + 1, by omega, by simp, Lib.hid ⟨HN.out, Below.andThen HB.out.2 HC.out (Nat.le_refl _)⟩⟩, by simp [intOf]; omega⟩
    · have hd : decide ((k : Int) < (ps.length : Int)) = false := decide_eq_false (by omega)
      have hdn : decide (k < ps.length) = false := decide_eq_false hlt
      obtain rfl : k = ps.length := by omega
      have HN := Lib.hid (show (p, q) ∉ ps by have := HB.out.1; rwa [List.take_length] at this)
      go_wp2_with fail
      go_ret
      exact ⟨-1, rfl, by constructor <;> intro h; omega; exact absurd h HN.out, Below.andThen BV.out HB.out.2 (Nat.le_refl _)⟩
set_option maxRecDepth 100000 in
set_option maxHeartbeats 400000 in
theorem contains_any (ps : List Pt) (v : Value) (p q : Int) (w : World) (hv : SlP w v ps) (hl : ps.length ≤ 1000000) :
    Calls Try.prog 54 #[v, .agg #[.int .i64 p, .int .i64 q]] w fun e w' => e = .returned (.bool (decide ((p, q) ∈ ps))) ∧ Below w.heap.size w w' := by
  have ba := Below.al (Below.refl w.heap.size w) (Nat.le_refl _) (.cells #[.int .i64 p, .int .i64 q] 28)
  have HI := Lib.hid (index_any ps v p q _ (hv.grow ba) hl)
  have BA := Lib.hid ba
  obtain ⟨a, c, rfl, _⟩ := hv
  clear ba
  go_enter Try.func54, Try.ntmps54
  go_wp2_with fail
  refine HI.out.mono ?_
  rintro e w1 ⟨r, rfl, hr, hb⟩
  have HB := Lib.hid (Below.andThen BA.out hb (Nat.le_refl _))
  have HR := Lib.hid (show decide (0 ≤ r) = decide ((p, q) ∈ ps) by rw [Bool.eq_iff_iff]; simpa using hr)
  clear hr hb HI
  go_wp2_with fail
  go_ret
  exact ⟨ret_bool HR.out, HB.out⟩
end Go.Proofs.Ytlemipnplgbckaa
namespace Go.Proofs.Ytlemipnplgbckaa
open Go.RowKit Go.Shelf
attribute [local go_sem] Oper.semAt_some
def SlPV (ps : List Pt) : Value → World → Prop := fun v W => SlP W v ps
theorem SlPV.stab (ps : List Pt) : ∀ (v : Value) (W W' : World), SlPV ps v W → Below W.heap.size W W' → SlPV ps v W' := fun _ _ _ h hb => SlP.grow h hb
/-- points -/
def chkP (ps : List Pt) : Bool := decide (1 ≤ ps.length) && decide (ps.length ≤ 12) && ps.all okP && decide ps.Nodup
theorem chkP_iff {ps : List Pt} : chkP ps = true ↔ (1 ≤ ps.length ∧ ps.length ≤ 12) ∧ (∀ p ∈ ps, Bd 20 p.1 ∧ Bd 20 p.2) ∧ ps.Nodup := by
  unfold chkP
  simp only [Bool.and_eq_true, decide_eq_true_eq, List.all_eq_true, okP_iff]
  exact ⟨fun ⟨⟨h1, h2⟩, h3⟩ => ⟨h1, h2, h3⟩, fun ⟨h1, h2, h3⟩ => ⟨⟨h1, h2⟩, h3⟩⟩
def errP (ps : List Pt) : Int := if chkP ps = true then 0 else 40
theorem slp_one (w : World) (x y : Int) : SlP (w.alloc (.cells #[.int .i64 x, .int .i64 y] 28)) (.slice (some ⟨w.heap.size, 0, none⟩) 1 1) [(x, y)] := by
  refine ⟨_, 1, rfl, Nat.le_refl _, .inr ⟨_, 0, rfl, by simp, fun i hi => ?_, fun i hi => ?_⟩⟩
  · have : i = 0 := by simp at hi; omega
    subst this; rw [cell_al, if_pos rfl]; rfl
  · have : i = 0 := by simp at hi; omega
    subst this; rw [cell_al, if_pos rfl]; rfl
theorem chk_bad {ps : List Pt} {k : Nat} (h : k < ps.length) (hb : okP ps[k] = false ∨ ps[k] ∈ ps.take k) : errP ps = 40 := by
  unfold errP
  rw [if_neg]
  intro hc
  obtain ⟨_, h2, h3⟩ := chkP_iff.1 hc
  rcases hb with hb | hb
  · have := okP_iff.2 (h2 _ (List.getElem_mem h))
    rw [hb] at this; cases this
  · have hs : ps.take (k + 1) = ps.take k ++ [ps[k]] := List.take_succ_eq_append_getElem h
    have hn : (ps.take (k + 1)).Nodup := h3.sublist (List.take_sublist _ _)
    rw [hs, List.nodup_append] at hn
    exact hn.2.2 _ hb _ (by simp) rfl
set_option maxRecDepth 100000 in
set_option maxHeartbeats 1000000 in
theorem Check_any (ps : List Pt) (v : Value) (w : World) (hv : SlP w v ps) (hl : ps.length ≤ 1000000) :
    Calls Try.prog 17 #[v] w fun e w' => e = .returned (.int .i64 (errP ps)) ∧ Below w.heap.size w w' := by
  obtain ⟨a, c, rfl, hc, hs⟩ := hv
  have HS := Lib.hid hs
  obtain ⟨E, hE⟩ : ∃ E : Int, errP ps = E := ⟨_, rfl⟩
  rw [hE]
  have HE := Lib.hid hE
  have HBAD := Lib.hid (fun k h hb => (hE ▸ chk_bad (ps := ps) (k := k) h hb : E = 40))
  clear hs hE
  by_cases hlen : 1 ≤ ps.length ∧ ps.length ≤ 12
  · have d1 : decide ((ps.length : Int) < 1) = false := decide_eq_false (by omega)
    have d2 : decide (12 < (ps.length : Int)) = false := decide_eq_false (by omega)
    go_enter Try.func17, Try.ntmps17
    go_wp2_with fail
    go_loopw [15] (fun iv wr => ∃ k : Nat, k ≤ ps.length ∧ iv = .int .i64 (k : Int) ∧ Hid ((∀ p ∈ ps.take k, okP p = true) ∧ (ps.take k).Nodup ∧ Below w.heap.size w wr)) (fun iv _ => (ps.length - intOf iv).toNat)
    case atStart => exact ⟨0, by omega, rfl, Lib.hid ⟨by simp, by simp, Below.refl _ _⟩⟩
    case round =>
      obtain ⟨k, hk, rfl, HB⟩ := hrel
      have kw : IntKind.i64.wrap ((k : Int) + 1) = ((k + 1 : Nat) : Int) := by rw [i64_of _ (by omega) (by omega)]; omega
      by_cases hlt : k < ps.length
      · have hd : decide ((k : Int) < (ps.length : Int)) = true := decide_eq_true (by omega)
        have hdn : decide (k < ps.length) = true := decide_eq_true hlt
        obtain ⟨g, o, rfl, hps⟩ : ∃ g o, a = some ⟨g, o, none⟩ ∧ PtsAt w g o ps := HS.out.resolve_left (fun e => by rw [e] at hlt; simp at hlt)
        have hp2 : PtsAt wr g o ps := hps.below HB.out.2.2 hps.lt
        have k0 := hp2.x k hlt
        have k1 := hp2.y k hlt
        have HTS := Lib.hid (show ps.take (k + 1) = ps.take k ++ [ps[k]] from List.take_succ_eq_append_getElem hlt)
        have HSL := Lib.hid (show SlP wr (.slice (some ⟨g, o, none⟩) k c) (ps.take k) from ⟨_, c, by rw [List.length_take, Nat.min_eq_left hk], by rw [List.length_take]; omega, .inr ⟨g, o, rfl, hp2.lt, fun i hi => by
          rw [List.length_take] at hi
          rw [List.getElem_take]; exact hp2.x i (by omega), fun i hi => by
          rw [List.length_take] at hi
          rw [List.getElem_take]; exact hp2.y i (by omega)⟩⟩)
        have hkc : k ≤ c := by omega
        have HBK := Lib.hid (HBAD.out k hlt)
        clear hps hp2
        generalize ps[k] = pk at *
        obtain ⟨x, y⟩ := pk
        dsimp only at k0 k1
        have HCK := Lib.hid (fun (v : Value) (W : World) (hv : SlP W v [(x, y)]) => checkPairs_any [(x, y)] v W hv (by simp))
        obtain ⟨ok, hok⟩ : ∃ ok, okP (x, y) = ok := ⟨_, rfl⟩
        have HOK := Lib.hid hok
        simp only [List.all_cons, List.all_nil, Bool.and_true, hok] at HCK
        have HCO := Lib.hid (fun (W : World) (hb : Below wr.heap.size wr W) => contains_any (ps.take k) _ x y W (HSL.out.grow hb) (by rw [List.length_take]; omega))
        obtain ⟨inn, hinn⟩ : ∃ inn, decide ((x, y) ∈ ps.take k) = inn := ⟨_, rfl⟩
        rw [hinn] at HCO
        have HIN := Lib.hid hinn
        clear hok hinn
        go_wp2_with fail
        have rB := Row.new wr 28 [.int .i64 x, .int .i64 y]
        have bB := Below.al (Below.refl wr.heap.size wr) (Nat.le_refl _) (.cells #[.int .i64 x, .int .i64 y] 28)
        have RB := Lib.hid rB
        have BB := Lib.hid bB
        clear rB bB k0 k1
        obtain ⟨V, hV⟩ : ∃ V, V = wr.alloc (.cells #[.int .i64 x, .int .i64 y] 28) := ⟨_, rfl⟩
        rw [← hV] at RB BB ⊢
        clear hV
        cases ok with
        | false =>
          simp only [Bool.false_eq_true, if_false] at HCK
          refine wp_region_rel (by kernel_rfl) (by kernel_rfl) [20, 21, 22, 23, 24, 25, 26, 27, 28, 29, 30] [LitR (.agg #[.int .i64 x, .int .i64 y]), (SlPV [(x, y)]), LitR (.int .i64 1), LitR (.bool true), LitR (.bool true), LitR (undef), LitR (undef), LitR (undef), LitR (undef), LitR (undef), LitR (.bool true)] 11 rfl (List.forall_mem_cons.2 ⟨LitR.stab _, (List.forall_mem_cons.2 ⟨SlPV.stab _, (List.forall_mem_cons.2 ⟨LitR.stab _, (List.forall_mem_cons.2 ⟨LitR.stab _, (List.forall_mem_cons.2 ⟨LitR.stab _, (List.forall_mem_cons.2 ⟨LitR.stab _, (List.forall_mem_cons.2 ⟨LitR.stab _, (List.forall_mem_cons.2 ⟨LitR.stab _, (List.forall_mem_cons.2 ⟨LitR.stab _, (List.forall_mem_cons.2 ⟨LitR.stab _, (List.forall_mem_cons.2 ⟨LitR.stab _, (fun _ h => nomatch h)⟩)⟩)⟩)⟩)⟩)⟩)⟩)⟩)⟩)⟩)⟩) ⟨[u20, u21, u22, u23, u24, u25, u26, u27, u28, u29, u30], by simp only [putAll, Act.put, List.setIfInBounds_toArray, List.set_cons_succ, List.set_cons_zero], rfl⟩ ?steps ?fin
          case steps =>
            simp only [relSteps]
            refine ⟨?_, ?_, ?_, ?_, ?_, ?_, ?_, ?_, ?_, ?_, ?_, trivial⟩
            · rintro vs W K hc hvl hw hK
              obtain ⟨x0, x1, x2, x3, x4, x5, x6, x7, x8, x9, x10, rfl⟩ := len11 hvl
              have HK := Lib.hid hK
              have HC := Lib.hid hc
              have HW := Lib.hid hw
              clear hK hc hw hvl
              simp only [putAll, Act.put, List.setIfInBounds_toArray, List.set_cons_succ, List.set_cons_zero]
              have rr := RB.out.below HC.out RB.out.lt
              have k0 : W.cell? ⟨wr.heap.size, 0, none⟩ = some (.int .i64 x) := rr.cell 0
              have k1 : W.cell? ⟨wr.heap.size, 1, none⟩ = some (.int .i64 y) := rr.cell 1
              clear rr
              clear HW
              go_wp2_with fail
              have fin := HK.out (.agg #[.int .i64 x, .int .i64 y]) W (Below.refl _ _) rfl
              simp only [putAll, Act.put, List.setIfInBounds_toArray, List.set_cons_succ, List.set_cons_zero] at fin
              exact fin
            · rintro vs W K hc hvl hw hK
              obtain ⟨x0, x1, x2, x3, x4, x5, x6, x7, x8, x9, x10, rfl⟩ := len11 hvl
              have HK := Lib.hid hK
              have HC := Lib.hid hc
              have HW := Lib.hid hw
              clear hK hc hw hvl
              have hd0 := HW.out ⟨0, .data⟩ (by simp) rfl
              obtain rfl : x0 = .agg #[.int .i64 x, .int .i64 y] := rel_get hd0 rfl
              simp only [putAll, Act.put, List.setIfInBounds_toArray, List.set_cons_succ, List.set_cons_zero]
              clear HW hd0
              go_wp2_with fail
              have fin := HK.out (.slice (some ⟨W.heap.size, 0, none⟩) 1 1) (W.alloc (.cells #[.int .i64 x, .int .i64 y] 28)) (Below.al (Below.refl _ _) (Nat.le_refl _) _) (slp_one W x y)
              simp only [putAll, Act.put, List.setIfInBounds_toArray, List.set_cons_succ, List.set_cons_zero] at fin
              exact fin
            · rintro vs W K hc hvl hw hK
              obtain ⟨x0, x1, x2, x3, x4, x5, x6, x7, x8, x9, x10, rfl⟩ := len11 hvl
              have HK := Lib.hid hK
              have HC := Lib.hid hc
              have HW := Lib.hid hw
              clear hK hc hw hvl
              have hd1 := HW.out ⟨1, .data⟩ (by simp) rfl
              have hr := rel_get (x := x1) hd1 rfl
              have HSV := Lib.hid (show SlP W x1 [(x, y)] from hr)
              clear hr
              simp only [putAll, Act.put, List.setIfInBounds_toArray, List.set_cons_succ, List.set_cons_zero]
              clear HW hd1
              go_wp2_with fail
              refine (HCK.out x1 W HSV.out).mono ?_
              rintro e W' ⟨rfl, hb'⟩
              have HB' := Lib.hid hb'
              clear hb'
              go_wp2_with fail
              have fin := HK.out (.int .i64 1) W' HB'.out rfl
              simp only [putAll, Act.put, List.setIfInBounds_toArray, List.set_cons_succ, List.set_cons_zero] at fin
              exact fin
            · rintro vs W K hc hvl hw hK
              obtain ⟨x0, x1, x2, x3, x4, x5, x6, x7, x8, x9, x10, rfl⟩ := len11 hvl
              have HK := Lib.hid hK
              have HC := Lib.hid hc
              have HW := Lib.hid hw
              clear hK hc hw hvl
              have hd2 := HW.out ⟨2, .data⟩ (by simp) rfl
              obtain rfl : x2 = .int .i64 1 := rel_get hd2 rfl
              simp only [putAll, Act.put, List.setIfInBounds_toArray, List.set_cons_succ, List.set_cons_zero]
              clear HW hd2
              go_wp2_with fail
              have fin := HK.out (.bool true) W (Below.refl _ _) rfl
              simp only [putAll, Act.put, List.setIfInBounds_toArray, List.set_cons_succ, List.set_cons_zero] at fin
              exact fin
            · rintro vs W K hc hvl hw hK
              obtain ⟨x0, x1, x2, x3, x4, x5, x6, x7, x8, x9, x10, rfl⟩ := len11 hvl
              have HK := Lib.hid hK
              have HC := Lib.hid hc
              have HW := Lib.hid hw
              clear hK hc hw hvl
              have hd3 := HW.out ⟨3, .data⟩ (by simp) rfl
              obtain rfl : x3 = .bool true := rel_get hd3 rfl
              simp only [putAll, Act.put, List.setIfInBounds_toArray, List.set_cons_succ, List.set_cons_zero]
              clear HW hd3
              go_wp2_with fail
              have fin := HK.out (.bool true) W (Below.refl _ _) rfl
              simp only [putAll, Act.put, List.setIfInBounds_toArray, List.set_cons_succ, List.set_cons_zero] at fin
              exact fin
            · rintro vs W K hc hvl hw hK
              obtain ⟨x0, x1, x2, x3, x4, x5, x6, x7, x8, x9, x10, rfl⟩ := len11 hvl
              have HK := Lib.hid hK
              have HC := Lib.hid hc
              have HW := Lib.hid hw
              clear hK hc hw hvl
              have hd4 := HW.out ⟨4, .guard⟩ (by simp) rfl
              obtain rfl : x4 = .bool true := rel_get hd4 rfl
              simp only [putAll, Act.put, List.setIfInBounds_toArray, List.set_cons_succ, List.set_cons_zero]
              clear HW hd4
              go_wp2_with fail
              have fin := HK.out (undef) W (Below.refl _ _) rfl
              simp only [putAll, Act.put, List.setIfInBounds_toArray, List.set_cons_succ, List.set_cons_zero] at fin
              exact fin
            · rintro vs W K hc hvl hw hK
              obtain ⟨x0, x1, x2, x3, x4, x5, x6, x7, x8, x9, x10, rfl⟩ := len11 hvl
              have HK := Lib.hid hK
              have HC := Lib.hid hc
              have HW := Lib.hid hw
              clear hK hc hw hvl
              have hd4 := HW.out ⟨4, .guard⟩ (by simp) rfl
              obtain rfl : x4 = .bool true := rel_get hd4 rfl
              simp only [putAll, Act.put, List.setIfInBounds_toArray, List.set_cons_succ, List.set_cons_zero]
              clear HW hd4
              go_wp2_with fail
              have fin := HK.out (undef) W (Below.refl _ _) rfl
              simp only [putAll, Act.put, List.setIfInBounds_toArray, List.set_cons_succ, List.set_cons_zero] at fin
              exact fin
            · rintro vs W K hc hvl hw hK
              obtain ⟨x0, x1, x2, x3, x4, x5, x6, x7, x8, x9, x10, rfl⟩ := len11 hvl
              have HK := Lib.hid hK
              have HC := Lib.hid hc
              have HW := Lib.hid hw
              clear hK hc hw hvl
              have hd5 := HW.out ⟨5, .data⟩ (by simp) rfl
              obtain rfl : x5 = undef := rel_get hd5 rfl
              have hd6 := HW.out ⟨6, .data⟩ (by simp) rfl
              obtain rfl : x6 = undef := rel_get hd6 rfl
              have hd4 := HW.out ⟨4, .guard⟩ (by simp) rfl
              obtain rfl : x4 = .bool true := rel_get hd4 rfl
              simp only [putAll, Act.put, List.setIfInBounds_toArray, List.set_cons_succ, List.set_cons_zero]
              clear HW hd4 hd5 hd6
              go_wp2_with fail
              have fin := HK.out (undef) W (Below.refl _ _) rfl
              simp only [putAll, Act.put, List.setIfInBounds_toArray, List.set_cons_succ, List.set_cons_zero] at fin
              exact fin
            · rintro vs W K hc hvl hw hK
              obtain ⟨x0, x1, x2, x3, x4, x5, x6, x7, x8, x9, x10, rfl⟩ := len11 hvl
              have HK := Lib.hid hK
              have HC := Lib.hid hc
              have HW := Lib.hid hw
              clear hK hc hw hvl
              have hd4 := HW.out ⟨4, .guard⟩ (by simp) rfl
              obtain rfl : x4 = .bool true := rel_get hd4 rfl
              simp only [putAll, Act.put, List.setIfInBounds_toArray, List.set_cons_succ, List.set_cons_zero]
              clear HW hd4
              go_wp2_with fail
              have fin := HK.out (undef) W (Below.refl _ _) rfl
              simp only [putAll, Act.put, List.setIfInBounds_toArray, List.set_cons_succ, List.set_cons_zero] at fin
              exact fin
            · rintro vs W K hc hvl hw hK
              obtain ⟨x0, x1, x2, x3, x4, x5, x6, x7, x8, x9, x10, rfl⟩ := len11 hvl
              have HK := Lib.hid hK
              have HC := Lib.hid hc
              have HW := Lib.hid hw
              clear hK hc hw hvl
              have hd7 := HW.out ⟨7, .data⟩ (by simp) rfl
              obtain rfl : x7 = undef := rel_get hd7 rfl
              have hd8 := HW.out ⟨8, .data⟩ (by simp) rfl
              obtain rfl : x8 = undef := rel_get hd8 rfl
              have hd4 := HW.out ⟨4, .guard⟩ (by simp) rfl
              obtain rfl : x4 = .bool true := rel_get hd4 rfl
              simp only [putAll, Act.put, List.setIfInBounds_toArray, List.set_cons_succ, List.set_cons_zero]
              clear HW hd4 hd7 hd8
              go_wp2_with fail
              have fin := HK.out (undef) W (Below.refl _ _) rfl
              simp only [putAll, Act.put, List.setIfInBounds_toArray, List.set_cons_succ, List.set_cons_zero] at fin
              exact fin
            · rintro vs W K hc hvl hw hK
              obtain ⟨x0, x1, x2, x3, x4, x5, x6, x7, x8, x9, x10, rfl⟩ := len11 hvl
              have HK := Lib.hid hK
              have HC := Lib.hid hc
              have HW := Lib.hid hw
              clear hK hc hw hvl
              have hd4 := HW.out ⟨4, .data⟩ (by simp) rfl
              obtain rfl : x4 = .bool true := rel_get hd4 rfl
              have hd9 := HW.out ⟨9, .data⟩ (by simp) rfl
              obtain rfl : x9 = undef := rel_get hd9 rfl
              simp only [putAll, Act.put, List.setIfInBounds_toArray, List.set_cons_succ, List.set_cons_zero]
              clear HW hd4 hd9
              go_wp2_with fail
              have fin := HK.out (.bool true) W (Below.refl _ _) rfl
              simp only [putAll, Act.put, List.setIfInBounds_toArray, List.set_cons_succ, List.set_cons_zero] at fin
              exact fin
          case fin =>
            intro vs W hc hvl hv
            obtain ⟨x0, x1, x2, x3, x4, x5, x6, x7, x8, x9, x10, rfl⟩ := len11 hvl
            have hd10 := hv 10 (by omega)
            obtain rfl : x10 = .bool true := rel_get hd10 rfl
            clear hd10
            simp only [putAll, Act.put, List.setIfInBounds_toArray, List.set_cons_succ, List.set_cons_zero]
            have HC := Lib.hid hc
            have HZ := Lib.hid (HBK.out (.inl HOK.out))
            clear hc hv hvl
            go_wp2_with fail
            go_ret
            exact ⟨ret_int HZ.out.symm, Below.andThen (Below.andThen HB.out.2.2 BB.out (Nat.le_refl _)) HC.out (Nat.le_refl _)⟩
        | true =>
          simp only [if_true] at HCK
          refine wp_region_rel (by kernel_rfl) (by kernel_rfl) [20, 21, 22, 23, 24, 25, 26, 27, 28, 29, 30] [LitR (.agg #[.int .i64 x, .int .i64 y]), (SlPV [(x, y)]), LitR (.int .i64 0), LitR (.bool false), LitR (.bool false), LitR (.slice (some ⟨g, o, none⟩) ps.length c), LitR (.int .i64 (k : Int)), LitR (.slice (some ⟨g, o, none⟩) k c), LitR (.agg #[.int .i64 x, .int .i64 y]), LitR (.bool inn), LitR (.bool inn)] 11 rfl (List.forall_mem_cons.2 ⟨LitR.stab _, (List.forall_mem_cons.2 ⟨SlPV.stab _, (List.forall_mem_cons.2 ⟨LitR.stab _, (List.forall_mem_cons.2 ⟨LitR.stab _, (List.forall_mem_cons.2 ⟨LitR.stab _, (List.forall_mem_cons.2 ⟨LitR.stab _, (List.forall_mem_cons.2 ⟨LitR.stab _, (List.forall_mem_cons.2 ⟨LitR.stab _, (List.forall_mem_cons.2 ⟨LitR.stab _, (List.forall_mem_cons.2 ⟨LitR.stab _, (List.forall_mem_cons.2 ⟨LitR.stab _, (fun _ h => nomatch h)⟩)⟩)⟩)⟩)⟩)⟩)⟩)⟩)⟩)⟩)⟩) ⟨[u20, u21, u22, u23, u24, u25, u26, u27, u28, u29, u30], by simp only [putAll, Act.put, List.setIfInBounds_toArray, List.set_cons_succ, List.set_cons_zero], rfl⟩ ?steps ?fin
          case steps =>
            simp only [relSteps]
            refine ⟨?_, ?_, ?_, ?_, ?_, ?_, ?_, ?_, ?_, ?_, ?_, trivial⟩
            · rintro vs W K hc hvl hw hK
              obtain ⟨x0, x1, x2, x3, x4, x5, x6, x7, x8, x9, x10, rfl⟩ := len11 hvl
              have HK := Lib.hid hK
              have HC := Lib.hid hc
              have HW := Lib.hid hw
              clear hK hc hw hvl
              simp only [putAll, Act.put, List.setIfInBounds_toArray, List.set_cons_succ, List.set_cons_zero]
              have rr := RB.out.below HC.out RB.out.lt
              have k0 : W.cell? ⟨wr.heap.size, 0, none⟩ = some (.int .i64 x) := rr.cell 0
              have k1 : W.cell? ⟨wr.heap.size, 1, none⟩ = some (.int .i64 y) := rr.cell 1
              clear rr
              clear HW
              go_wp2_with fail
              have fin := HK.out (.agg #[.int .i64 x, .int .i64 y]) W (Below.refl _ _) rfl
              simp only [putAll, Act.put, List.setIfInBounds_toArray, List.set_cons_succ, List.set_cons_zero] at fin
              exact fin
            · rintro vs W K hc hvl hw hK
              obtain ⟨x0, x1, x2, x3, x4, x5, x6, x7, x8, x9, x10, rfl⟩ := len11 hvl
              have HK := Lib.hid hK
              have HC := Lib.hid hc
              have HW := Lib.hid hw
              clear hK hc hw hvl
              have hd0 := HW.out ⟨0, .data⟩ (by simp) rfl
              obtain rfl : x0 = .agg #[.int .i64 x, .int .i64 y] := rel_get hd0 rfl
              simp only [putAll, Act.put, List.setIfInBounds_toArray, List.set_cons_succ, List.set_cons_zero]
              clear HW hd0
              go_wp2_with fail
              have fin := HK.out (.slice (some ⟨W.heap.size, 0, none⟩) 1 1) (W.alloc (.cells #[.int .i64 x, .int .i64 y] 28)) (Below.al (Below.refl _ _) (Nat.le_refl _) _) (slp_one W x y)
              simp only [putAll, Act.put, List.setIfInBounds_toArray, List.set_cons_succ, List.set_cons_zero] at fin
              exact fin
            · rintro vs W K hc hvl hw hK
              obtain ⟨x0, x1, x2, x3, x4, x5, x6, x7, x8, x9, x10, rfl⟩ := len11 hvl
              have HK := Lib.hid hK
              have HC := Lib.hid hc
              have HW := Lib.hid hw
              clear hK hc hw hvl
              have hd1 := HW.out ⟨1, .data⟩ (by simp) rfl
              have hr := rel_get (x := x1) hd1 rfl
              have HSV := Lib.hid (show SlP W x1 [(x, y)] from hr)
              clear hr
              simp only [putAll, Act.put, List.setIfInBounds_toArray, List.set_cons_succ, List.set_cons_zero]
              clear HW hd1
              go_wp2_with fail
              refine (HCK.out x1 W HSV.out).mono ?_
              rintro e W' ⟨rfl, hb'⟩
              have HB' := Lib.hid hb'
              clear hb'
              go_wp2_with fail
              have fin := HK.out (.int .i64 0) W' HB'.out rfl
              simp only [putAll, Act.put, List.setIfInBounds_toArray, List.set_cons_succ, List.set_cons_zero] at fin
              exact fin
            · rintro vs W K hc hvl hw hK
              obtain ⟨x0, x1, x2, x3, x4, x5, x6, x7, x8, x9, x10, rfl⟩ := len11 hvl
              have HK := Lib.hid hK
              have HC := Lib.hid hc
              have HW := Lib.hid hw
              clear hK hc hw hvl
              have hd2 := HW.out ⟨2, .data⟩ (by simp) rfl
              obtain rfl : x2 = .int .i64 0 := rel_get hd2 rfl
              simp only [putAll, Act.put, List.setIfInBounds_toArray, List.set_cons_succ, List.set_cons_zero]
              clear HW hd2
              go_wp2_with fail
              have fin := HK.out (.bool false) W (Below.refl _ _) rfl
              simp only [putAll, Act.put, List.setIfInBounds_toArray, List.set_cons_succ, List.set_cons_zero] at fin
              exact fin
            · rintro vs W K hc hvl hw hK
              obtain ⟨x0, x1, x2, x3, x4, x5, x6, x7, x8, x9, x10, rfl⟩ := len11 hvl
              have HK := Lib.hid hK
              have HC := Lib.hid hc
              have HW := Lib.hid hw
              clear hK hc hw hvl
              have hd3 := HW.out ⟨3, .data⟩ (by simp) rfl
              obtain rfl : x3 = .bool false := rel_get hd3 rfl
              simp only [putAll, Act.put, List.setIfInBounds_toArray, List.set_cons_succ, List.set_cons_zero]
              clear HW hd3
              go_wp2_with fail
              have fin := HK.out (.bool false) W (Below.refl _ _) rfl
              simp only [putAll, Act.put, List.setIfInBounds_toArray, List.set_cons_succ, List.set_cons_zero] at fin
              exact fin
            · rintro vs W K hc hvl hw hK
              obtain ⟨x0, x1, x2, x3, x4, x5, x6, x7, x8, x9, x10, rfl⟩ := len11 hvl
              have HK := Lib.hid hK
              have HC := Lib.hid hc
              have HW := Lib.hid hw
              clear hK hc hw hvl
              have hd4 := HW.out ⟨4, .guard⟩ (by simp) rfl
              obtain rfl : x4 = .bool false := rel_get hd4 rfl
              simp only [putAll, Act.put, List.setIfInBounds_toArray, List.set_cons_succ, List.set_cons_zero]
              clear HW hd4
              go_wp2_with fail
              have fin := HK.out (.slice (some ⟨g, o, none⟩) ps.length c) W (Below.refl _ _) rfl
              simp only [putAll, Act.put, List.setIfInBounds_toArray, List.set_cons_succ, List.set_cons_zero] at fin
              exact fin
            · rintro vs W K hc hvl hw hK
              obtain ⟨x0, x1, x2, x3, x4, x5, x6, x7, x8, x9, x10, rfl⟩ := len11 hvl
              have HK := Lib.hid hK
              have HC := Lib.hid hc
              have HW := Lib.hid hw
              clear hK hc hw hvl
              have hd4 := HW.out ⟨4, .guard⟩ (by simp) rfl
              obtain rfl : x4 = .bool false := rel_get hd4 rfl
              simp only [putAll, Act.put, List.setIfInBounds_toArray, List.set_cons_succ, List.set_cons_zero]
              clear HW hd4
              go_wp2_with fail
              have fin := HK.out (.int .i64 (k : Int)) W (Below.refl _ _) rfl
              simp only [putAll, Act.put, List.setIfInBounds_toArray, List.set_cons_succ, List.set_cons_zero] at fin
              exact fin
            · rintro vs W K hc hvl hw hK
              obtain ⟨x0, x1, x2, x3, x4, x5, x6, x7, x8, x9, x10, rfl⟩ := len11 hvl
              have HK := Lib.hid hK
              have HC := Lib.hid hc
              have HW := Lib.hid hw
              clear hK hc hw hvl
              have hd5 := HW.out ⟨5, .data⟩ (by simp) rfl
              obtain rfl : x5 = .slice (some ⟨g, o, none⟩) ps.length c := rel_get hd5 rfl
              have hd6 := HW.out ⟨6, .data⟩ (by simp) rfl
              obtain rfl : x6 = .int .i64 (k : Int) := rel_get hd6 rfl
              have hd4 := HW.out ⟨4, .guard⟩ (by simp) rfl
              obtain rfl : x4 = .bool false := rel_get hd4 rfl
              simp only [putAll, Act.put, List.setIfInBounds_toArray, List.set_cons_succ, List.set_cons_zero]
              clear HW hd4 hd5 hd6
              go_wp2_with fail
              have fin := HK.out (.slice (some ⟨g, o, none⟩) k c) W (Below.refl _ _) rfl
              simp only [putAll, Act.put, List.setIfInBounds_toArray, List.set_cons_succ, List.set_cons_zero] at fin
              exact fin
            · rintro vs W K hc hvl hw hK
              obtain ⟨x0, x1, x2, x3, x4, x5, x6, x7, x8, x9, x10, rfl⟩ := len11 hvl
              have HK := Lib.hid hK
              have HC := Lib.hid hc
              have HW := Lib.hid hw
              clear hK hc hw hvl
              have hd4 := HW.out ⟨4, .guard⟩ (by simp) rfl
              obtain rfl : x4 = .bool false := rel_get hd4 rfl
              simp only [putAll, Act.put, List.setIfInBounds_toArray, List.set_cons_succ, List.set_cons_zero]
              have rr := RB.out.below HC.out RB.out.lt
              have k0 : W.cell? ⟨wr.heap.size, 0, none⟩ = some (.int .i64 x) := rr.cell 0
              have k1 : W.cell? ⟨wr.heap.size, 1, none⟩ = some (.int .i64 y) := rr.cell 1
              clear rr
              clear HW hd4
              go_wp2_with fail
              have fin := HK.out (.agg #[.int .i64 x, .int .i64 y]) W (Below.refl _ _) rfl
              simp only [putAll, Act.put, List.setIfInBounds_toArray, List.set_cons_succ, List.set_cons_zero] at fin
              exact fin
            · rintro vs W K hc hvl hw hK
              obtain ⟨x0, x1, x2, x3, x4, x5, x6, x7, x8, x9, x10, rfl⟩ := len11 hvl
              have HK := Lib.hid hK
              have HC := Lib.hid hc
              have HW := Lib.hid hw
              clear hK hc hw hvl
              have hd7 := HW.out ⟨7, .data⟩ (by simp) rfl
              obtain rfl : x7 = .slice (some ⟨g, o, none⟩) k c := rel_get hd7 rfl
              have hd8 := HW.out ⟨8, .data⟩ (by simp) rfl
              obtain rfl : x8 = .agg #[.int .i64 x, .int .i64 y] := rel_get hd8 rfl
              have hd4 := HW.out ⟨4, .guard⟩ (by simp) rfl
              obtain rfl : x4 = .bool false := rel_get hd4 rfl
              simp only [putAll, Act.put, List.setIfInBounds_toArray, List.set_cons_succ, List.set_cons_zero]
              clear HW hd4 hd7 hd8
              go_wp2_with fail
              refine (HCO.out W (Below.andThen BB.out HC.out (Nat.le_refl _))).mono ?_
              rintro e W' ⟨rfl, hb'⟩
              have HB' := Lib.hid hb'
              clear hb'
              go_wp2_with fail
              have fin := HK.out (.bool inn) W' HB'.out rfl
              simp only [putAll, Act.put, List.setIfInBounds_toArray, List.set_cons_succ, List.set_cons_zero] at fin
              exact fin
            · rintro vs W K hc hvl hw hK
              obtain ⟨x0, x1, x2, x3, x4, x5, x6, x7, x8, x9, x10, rfl⟩ := len11 hvl
              have HK := Lib.hid hK
              have HC := Lib.hid hc
              have HW := Lib.hid hw
              clear hK hc hw hvl
              have hd4 := HW.out ⟨4, .data⟩ (by simp) rfl
              obtain rfl : x4 = .bool false := rel_get hd4 rfl
              have hd9 := HW.out ⟨9, .data⟩ (by simp) rfl
              obtain rfl : x9 = .bool inn := rel_get hd9 rfl
              simp only [putAll, Act.put, List.setIfInBounds_toArray, List.set_cons_succ, List.set_cons_zero]
              clear HW hd4 hd9
              go_wp2_with fail
              have fin := HK.out (.bool inn) W (Below.refl _ _) rfl
              simp only [putAll, Act.put, List.setIfInBounds_toArray, List.set_cons_succ, List.set_cons_zero] at fin
              exact fin
          case fin =>
            intro vs W hc hvl hv
            obtain ⟨x0, x1, x2, x3, x4, x5, x6, x7, x8, x9, x10, rfl⟩ := len11 hvl
            have hd10 := hv 10 (by omega)
            obtain rfl : x10 = .bool inn := rel_get hd10 rfl
            clear hd10
            simp only [putAll, Act.put, List.setIfInBounds_toArray, List.set_cons_succ, List.set_cons_zero]
            have HC := Lib.hid hc
            clear hc hv hvl
            cases inn with
            | true =>
              have HZ := Lib.hid (HBK.out (.inr (of_decide_eq_true HIN.out)))
              go_wp2_with fail
              go_ret
              exact ⟨ret_int HZ.out.symm, Below.andThen (Below.andThen HB.out.2.2 BB.out (Nat.le_refl _)) HC.out (Nat.le_refl _)⟩
            | false =>
              have HN := Lib.hid (show (∀ p ∈ ps.take (k + 1), okP p = true) ∧ (ps.take (k + 1)).Nodup by
                rw [HTS.out]
                refine ⟨fun p hp => ?_, ?_⟩
                · rcases List.mem_append.1 hp with hp | hp
                  · exact HB.out.1 p hp
                  · rw [List.mem_singleton.1 hp]; exact HOK.out
                · rw [List.nodup_append]
                  refine ⟨HB.out.2.1, by simp, fun p hp q hq e => ?_⟩
                  rw [List.mem_singleton.1 hq] at e
                  subst e
                  exact of_decide_eq_false HIN.out hp)
              go_wp2_with fail
              exact ⟨⟨k + 1, by omega, by simp, Lib.hid ⟨HN.out.1, HN.out.2, Below.andThen (Below.andThen HB.out.2.2 BB.out (Nat.le_refl _)) HC.out (Nat.le_refl _)⟩⟩, by simp [intOf]; omega⟩
      · have hd : decide ((k : Int) < (ps.length : Int)) = false := decide_eq_false (by omega)
        have hdn : decide (k < ps.length) = false := decide_eq_false hlt
        obtain rfl : k = ps.length := by omega
        have h1 := HB.out.1
        have h2 := HB.out.2.1
        rw [List.take_length] at h1 h2
        have HZ := Lib.hid (show E = 0 by
          rw [← HE.out]; unfold errP
          rw [if_pos (chkP_iff.2 ⟨hlen, fun p hp => okP_iff.1 (h1 p hp), h2⟩)])
        clear h1 h2
        go_wp2_with fail
        go_ret
        exact ⟨ret_int HZ.out.symm, HB.out.2.2⟩
  · have HZ := Lib.hid (show E = 40 by
      rw [← HE.out]; unfold errP
      rw [if_neg (fun h => hlen (chkP_iff.1 h).1)])
    by_cases h1 : ps.length < 1
    · have d1 : decide ((ps.length : Int) < 1) = true := decide_eq_true (by omega)
      go_enter Try.func17, Try.ntmps17
      go_wp2_with fail
      go_ret
      exact ⟨ret_int HZ.out.symm, Below.refl _ _⟩
    · have d1 : decide ((ps.length : Int) < 1) = false := decide_eq_false (by omega)
      have d2 : decide (12 < (ps.length : Int)) = true := decide_eq_true (by omega)
      go_enter Try.func17, Try.ntmps17
      go_wp2_with fail
      go_ret
      exact ⟨ret_int HZ.out.symm, Below.refl _ _⟩
end Go.Proofs.Ytlemipnplgbckaa
namespace Go.Proofs.Ytlemipnplgbckaa
open Go.RowKit Go.Shelf
attribute [local go_sem] Oper.semAt_some
set_option maxRecDepth 100000 in
set_option maxHeartbeats 600000 in
theorem indexFunc_any (ps : List Pt) (v : Value) (G : FuncId) (caps : Array Value) (gl : Pt → Bool) (w : World) (hv : SlP w v ps) (hl : ps.length ≤ 1000000)
    (hen : ∀ args W, (callFunc G args).run Try.prog W = .ok (.enter G args) W)
    (hg : ∀ W x y, Below w.heap.size w W → (x, y) ∈ ps → Calls Try.prog G (#[.agg #[.int .i64 x, .int .i64 y]] ++ caps) W fun e w' => e = .returned (.bool (gl (x, y))) ∧ Below W.heap.size W w') :
    Calls Try.prog 96 #[v, .func (.func G) #[] caps] w fun e w' => ∃ r : Int, e = .returned (.int .i64 r) ∧ (0 ≤ r ↔ ps.any gl = true) ∧ Below w.heap.size w w' := by
  obtain ⟨a, c, rfl, hc, hs⟩ := hv
  have HS := Lib.hid hs
  have HG := Lib.hid hg
  clear hs hg
  go_enter Try.func96, Try.ntmps96
  go_wp2_with fail
  go_loopw [8] (fun iv wr => ∃ k : Nat, k ≤ ps.length ∧ iv = .int .i64 (k : Int) ∧ Hid ((ps.take k).any gl = false ∧ Below w.heap.size w wr)) (fun iv _ => (ps.length - intOf iv).toNat)
  case atStart => exact ⟨0, by omega, rfl, Lib.hid ⟨by simp, Below.refl _ _⟩⟩
  case round =>
    obtain ⟨k, hk, rfl, HB⟩ := hrel
    have kw : IntKind.i64.wrap ((k : Int) + 1) = ((k + 1 : Nat) : Int) := by rw [i64_of _ (by omega) (by omega)]; omega
    by_cases hlt : k < ps.length
    · have hd : decide ((k : Int) < (ps.length : Int)) = true := decide_eq_true (by omega)
      have hdn : decide (k < ps.length) = true := decide_eq_true hlt
      obtain ⟨g, o, rfl, hps⟩ : ∃ g o, a = some ⟨g, o, none⟩ ∧ PtsAt w g o ps := HS.out.resolve_left (fun e => by rw [e] at hlt; simp at hlt)
      have hp2 : PtsAt wr g o ps := hps.below HB.out.2 hps.lt
      have k0 := hp2.x k hlt
      have k1 := hp2.y k hlt
      have HT := Lib.hid (show ps.take (k + 1) = ps.take k ++ [ps[k]] from List.take_succ_eq_append_getElem hlt)
      have HM := Lib.hid (show gl ps[k] = true → ps.any gl = true from fun h => List.any_eq_true.2 ⟨_, List.getElem_mem hlt, h⟩)
      have HGK := Lib.hid (HG.out wr ps[k].1 ps[k].2 HB.out.2 (List.getElem_mem hlt))
      clear hps hp2
      generalize ps[k] = pk at *
      obtain ⟨x, y⟩ := pk
      dsimp only at k0 k1 HGK
      obtain ⟨E, hE⟩ : ∃ E, gl (x, y) = E := ⟨_, rfl⟩
      rw [hE] at HGK HM
      have HE := Lib.hid hE
      clear hE
      go_wp2_with fail
      refine HGK.out.mono ?_
      rintro e w1 ⟨rfl, hb1⟩
      have HB1 := Lib.hid (Below.andThen HB.out.2 hb1 (Nat.le_refl _))
      clear hb1 HGK k0 k1
      cases E with
      | true =>
        have HM2 := Lib.hid (HM.out rfl)
        go_wp2_with fail
        go_ret
        exact ⟨(k : Int), rfl, ⟨fun _ => HM2.out, fun _ => by omega⟩, HB1.out⟩
      | false =>
        have HN := Lib.hid (show (ps.take (k + 1)).any gl = false by rw [HT.out, List.any_append, HB.out.1]; simp [HE.out])
        go_wp2_with fail
        exact ⟨⟨k + 1, by omega, by simp, Lib.hid ⟨HN.out, HB1.out⟩⟩, by simp [intOf]; omega⟩
    · have hd : decide ((k : Int) < (ps.length : Int)) = false := decide_eq_false (by omega)
      have hdn : decide (k < ps.length) = false := decide_eq_false hlt
      obtain rfl : k = ps.length := by omega
      have HN := Lib.hid (show ps.any gl = false by have := HB.out.1; rwa [List.take_length] at this)
      go_wp2_with fail
      go_ret
      exact ⟨-1, rfl, by rw [HN.out]; simp, HB.out.2⟩
set_option maxRecDepth 100000 in
set_option maxHeartbeats 400000 in
theorem containsFunc_any (ps : List Pt) (v : Value) (G : FuncId) (caps : Array Value) (gl : Pt → Bool) (w : World) (hv : SlP w v ps) (hl : ps.length ≤ 1000000)
    (hen : ∀ args W, (callFunc G args).run Try.prog W = .ok (.enter G args) W)
    (hg : ∀ W x y, Below w.heap.size w W → (x, y) ∈ ps → Calls Try.prog G (#[.agg #[.int .i64 x, .int .i64 y]] ++ caps) W fun e w' => e = .returned (.bool (gl (x, y))) ∧ Below W.heap.size W w') :
    Calls Try.prog 64 #[v, .func (.func G) #[] caps] w fun e w' => e = .returned (.bool (ps.any gl)) ∧ Below w.heap.size w w' := by
  have HI := Lib.hid (indexFunc_any ps v G caps gl w hv hl hen hg)
  obtain ⟨a, c, rfl, _⟩ := hv
  clear hg
  go_enter Try.func64, Try.ntmps64
  go_wp2_with fail
  refine HI.out.mono ?_
  rintro e w1 ⟨r, rfl, hr, hb⟩
  have HB := Lib.hid hb
  have HR := Lib.hid (show decide (0 ≤ r) = ps.any gl by rw [Bool.eq_iff_iff]; simpa using hr)
  clear hr hb HI
  go_wp2_with fail
  go_ret
  exact ⟨ret_bool HR.out, HB.out⟩
/-- a circle of the program's -/
structure Cir where
  X : Int
  Y : Int
  D : Int
  R : Int
deriving DecidableEq
def Cir.V (c : Cir) : Value := cirV c.X c.Y c.D c.R
def CirB (c : Cir) : Prop := Bd 1000000 c.X ∧ Bd 1000000 c.Y ∧ (1 ≤ c.D ∧ c.D ≤ 1000000) ∧ 0 ≤ c.R ∧ c.R ≤ 1000000000000
/-- where a point is by a circle -/
def whF (c : Cir) (p : Pt) : Int := cmpI (apF c.X c.Y c.D p) c.R
theorem CirB.d {c : Cir} (h : CirB c) : Bd 1000000 c.D := by have := h.2.2.1; unfold Bd; omega
set_option maxRecDepth 100000 in
set_option maxHeartbeats 400000 in
/-- a point is outside a circle that is captured -/
theorem outside_any (c : Cir) (hc : CirB c) (x y : Int) (hx : Bd 20 x) (hy : Bd 20 y) (b : Nat) (w : World) (hb : Row w b 30 [.int .i64 c.X, .int .i64 c.Y, .int .i64 c.D, .int .i64 c.R]) :
    Calls Try.prog 84 #[.agg #[.int .i64 x, .int .i64 y], .pointer (some ⟨b, 0, none⟩)] w fun e w' => e = .returned (.bool (decide (0 < whF c (x, y)))) ∧ Below w.heap.size w w' := by
  have ba := Below.al (Below.refl w.heap.size w) (Nat.le_refl _) (.cells #[.int .i64 x, .int .i64 y] 28)
  have rr := hb.below ba hb.lt
  have k0 := rr.cell 0
  have k1 := rr.cell 1
  have k2 := rr.cell 2
  have k3 := rr.cell 3
  simp only [List.getElem?_cons_zero, List.getElem?_cons_succ] at k0 k1 k2 k3
  have HW := Lib.hid (fun (W : World) => where_any c.X c.Y c.D c.R x y W hc.1 hc.2.1 hc.d hx hy)
  have HWF := Lib.hid (show cmpI (apF c.X c.Y c.D (x, y)) c.R = whF c (x, y) from rfl)
  rw [HWF.out] at HW
  have BA := Lib.hid ba
  generalize whF c (x, y) = q at *
  clear hb rr ba hc hx hy
  go_enter Try.func84, Try.ntmps84
  go_wp2_with fail
  refine (HW.out _).mono ?_
  rintro e w1 ⟨rfl, hb1⟩
  have HB := Lib.hid (Below.andThen BA.out hb1 (Nat.le_refl _))
  clear hb1 k0 k1 k2 k3
  go_wp2_with fail
  go_ret
  exact ⟨rfl, HB.out⟩
set_option maxRecDepth 100000 in
set_option maxHeartbeats 400000 in
/-- a point is inside a circle that is captured -/
theorem inside_any (c : Cir) (hc : CirB c) (x y : Int) (hx : Bd 20 x) (hy : Bd 20 y) (b : Nat) (w : World) (hb : Row w b 30 [.int .i64 c.X, .int .i64 c.Y, .int .i64 c.D, .int .i64 c.R]) :
    Calls Try.prog 62 #[.agg #[.int .i64 x, .int .i64 y], .pointer (some ⟨b, 0, none⟩)] w fun e w' => e = .returned (.bool (decide (whF c (x, y) < 0))) ∧ Below w.heap.size w w' := by
  have ba := Below.al (Below.refl w.heap.size w) (Nat.le_refl _) (.cells #[.int .i64 x, .int .i64 y] 28)
  have rr := hb.below ba hb.lt
  have k0 := rr.cell 0
  have k1 := rr.cell 1
  have k2 := rr.cell 2
  have k3 := rr.cell 3
  simp only [List.getElem?_cons_zero, List.getElem?_cons_succ] at k0 k1 k2 k3
  have HW := Lib.hid (fun (W : World) => where_any c.X c.Y c.D c.R x y W hc.1 hc.2.1 hc.d hx hy)
  have HWF := Lib.hid (show cmpI (apF c.X c.Y c.D (x, y)) c.R = whF c (x, y) from rfl)
  rw [HWF.out] at HW
  have BA := Lib.hid ba
  generalize whF c (x, y) = q at *
  clear hb rr ba hc hx hy
  go_enter Try.func62, Try.ntmps62
  go_wp2_with fail
  refine (HW.out _).mono ?_
  rintro e w1 ⟨rfl, hb1⟩
  have HB := Lib.hid (Below.andThen BA.out hb1 (Nat.le_refl _))
  clear hb1 k0 k1 k2 k3
  go_wp2_with fail
  go_ret
  exact ⟨rfl, HB.out⟩
set_option maxRecDepth 100000 in
set_option maxHeartbeats 600000 in
/-- a circle leaves one of the points outside -/
theorem tooSmall_any (c : Cir) (hc : CirB c) (ps : List Pt) (hps : ∀ p ∈ ps, Bd 20 p.1 ∧ Bd 20 p.2) (hl : ps.length ≤ 1000000) (v : Value) (b : Nat) (w : World) (hb : Row w b 22 [v]) (hv : SlP w v ps) :
    Calls Try.prog 83 #[.agg #[.int .i64 c.X, .int .i64 c.Y, .int .i64 c.D, .int .i64 c.R], .pointer (some ⟨b, 0, none⟩)] w fun e w' => e = .returned (.bool (ps.any fun p => decide (0 < whF c p))) ∧ Below w.heap.size w w' := by
  have ba := Below.al (Below.refl w.heap.size w) (Nat.le_refl _) (.cells #[.int .i64 c.X, .int .i64 c.Y, .int .i64 c.D, .int .i64 c.R] 30)
  have rc := Row.new w 30 [.int .i64 c.X, .int .i64 c.Y, .int .i64 c.D, .int .i64 c.R]
  have rr := hb.below ba hb.lt
  have k0 := rr.cell 0
  simp only [List.getElem?_cons_zero] at k0
  have hcf := containsFunc_any ps v 84 #[.pointer (some ⟨w.heap.size, 0, none⟩)] (fun p => decide (0 < whF c p)) _ (hv.grow ba) hl (enters_of Try.func84 (by kernel_rfl) rfl) (fun W x y hbb hm => outside_any c hc x y (hps _ hm).1 (hps _ hm).2 w.heap.size W (rc.below hbb rc.lt))
  have HCF := Lib.hid hcf
  have BA := Lib.hid ba
  generalize ps.any (fun p => decide (0 < whF c p)) = q at *
  obtain ⟨a, cc, rfl, _⟩ := hv
  clear hb rr rc ba hc hps hcf
  go_enter Try.func83, Try.ntmps83
  go_wp2_with fail
  refine HCF.out.mono ?_
  rintro e w1 ⟨rfl, hb1⟩
  have HB := Lib.hid (Below.andThen BA.out hb1 (Nat.le_refl _))
  clear hb1 k0
  go_wp2_with fail
  go_ret
  exact ⟨rfl, HB.out⟩
end Go.Proofs.Ytlemipnplgbckaa
namespace Go.Proofs.Ytlemipnplgbckaa
open Go.RowKit Go.Shelf
attribute [local go_sem] Oper.semAt_some
/-- circles at a block -/
structure CirsAt (w : World) (b o : Nat) (cs : List Cir) : Prop where
  lt : b < w.heap.size
  x : ∀ i (h : i < cs.length), w.cell? ⟨b, o + i * 4, none⟩ = some (.int .i64 cs[i].X)
  y : ∀ i (h : i < cs.length), w.cell? ⟨b, o + i * 4 + 1, none⟩ = some (.int .i64 cs[i].Y)
  d : ∀ i (h : i < cs.length), w.cell? ⟨b, o + i * 4 + 2, none⟩ = some (.int .i64 cs[i].D)
  r : ∀ i (h : i < cs.length), w.cell? ⟨b, o + i * 4 + 3, none⟩ = some (.int .i64 cs[i].R)
theorem CirsAt.below {B : Nat} {w w' : World} {b o : Nat} {cs : List Cir} (h : CirsAt w b o cs) (hb : Below B w w') (hB : b < B) : CirsAt w' b o cs :=
  ⟨Nat.lt_of_lt_of_le h.lt hb.size, fun i hi => below_at hb hB (h.x i hi), fun i hi => below_at hb hB (h.y i hi), fun i hi => below_at hb hB (h.d i hi), fun i hi => below_at hb hB (h.r i hi)⟩
theorem CirsAt.grow {w w' : World} {b o : Nat} {cs : List Cir} (h : CirsAt w b o cs) (hb : Below w.heap.size w w') : CirsAt w' b o cs := h.below hb h.lt
def SlC (w : World) (v : Value) (cs : List Cir) : Prop := ∃ a c, v = .slice a cs.length c ∧ cs.length ≤ c ∧ (cs = [] ∨ ∃ g o, a = some ⟨g, o, none⟩ ∧ CirsAt w g o cs)
theorem SlC.grow {w w' : World} {v : Value} {cs : List Cir} (h : SlC w v cs) (hb : Below w.heap.size w w') : SlC w' v cs := by
  obtain ⟨a, c, rfl, hc, h⟩ := h
  exact ⟨a, c, rfl, hc, h.imp id (fun ⟨g, o, h1, h2⟩ => ⟨g, o, h1, h2.grow hb⟩)⟩
set_option maxRecDepth 100000 in
set_option maxHeartbeats 600000 in
/-- the first circle for which something holds -/
theorem indexCir_any (cs : List Cir) (v : Value) (G : FuncId) (caps : Array Value) (gl : Cir → Bool) (w : World) (hv : SlC w v cs) (hl : cs.length ≤ 1000000)
    (hen : ∀ args W, (callFunc G args).run Try.prog W = .ok (.enter G args) W)
    (hg : ∀ W c, Below w.heap.size w W → c ∈ cs → Calls Try.prog G (#[.agg #[.int .i64 c.X, .int .i64 c.Y, .int .i64 c.D, .int .i64 c.R]] ++ caps) W fun e w' => e = .returned (.bool (gl c)) ∧ Below W.heap.size W w') :
    Calls Try.prog 102 #[v, .func (.func G) #[] caps] w fun e w' => e = .returned (.int .i64 (match cs.findIdx? gl with | some k => (k : Int) | none => -1)) ∧ Below w.heap.size w w' := by
  obtain ⟨a, c, rfl, hc, hs⟩ := hv
  have HS := Lib.hid hs
  have HG := Lib.hid hg
  obtain ⟨E0, hE0⟩ : ∃ E0 : Int, (match cs.findIdx? gl with | some k => (k : Int) | none => -1) = E0 := ⟨_, rfl⟩
  rw [hE0]
  have HE0 := Lib.hid hE0
  clear hs hg hE0
  go_enter Try.func102, Try.ntmps102
  go_wp2_with fail
  go_loopw [8] (fun iv wr => ∃ k : Nat, k ≤ cs.length ∧ iv = .int .i64 (k : Int) ∧ Hid ((∀ j (h : j < cs.length), j < k → gl cs[j] = false) ∧ Below w.heap.size w wr)) (fun iv _ => (cs.length - intOf iv).toNat)
  case atStart => exact ⟨0, by omega, rfl, Lib.hid ⟨fun j _ h => by omega, Below.refl _ _⟩⟩
  case round =>
    obtain ⟨k, hk, rfl, HB⟩ := hrel
    have kw : IntKind.i64.wrap ((k : Int) + 1) = ((k + 1 : Nat) : Int) := by rw [i64_of _ (by omega) (by omega)]; omega
    by_cases hlt : k < cs.length
    · have hd : decide ((k : Int) < (cs.length : Int)) = true := decide_eq_true (by omega)
      have hdn : decide (k < cs.length) = true := decide_eq_true hlt
      obtain ⟨g, o, rfl, hps⟩ : ∃ g o, a = some ⟨g, o, none⟩ ∧ CirsAt w g o cs := HS.out.resolve_left (fun e => by rw [e] at hlt; simp at hlt)
      have hp2 : CirsAt wr g o cs := hps.below HB.out.2 hps.lt
      have k0 := hp2.x k hlt
      have k1 := hp2.y k hlt
      have k2 := hp2.d k hlt
      have k3 := hp2.r k hlt
      have HM := Lib.hid (show gl cs[k] = true → E0 = (k : Int) from fun h => by
        rw [← HE0.out]
        have : cs.findIdx? gl = some k := by
          rw [List.findIdx?_eq_some_iff_getElem]
          exact ⟨hlt, h, fun j hj => by simpa using HB.out.1 j (by omega) hj⟩
        rw [this])
      have HGK := Lib.hid (HG.out wr cs[k] HB.out.2 (List.getElem_mem hlt))
      have HNX := Lib.hid (show gl cs[k] = false → ∀ j (h : j < cs.length), j < k + 1 → gl cs[j] = false from fun h0 j h1 h2 => by
        rcases Nat.lt_or_ge j k with h | h
        · exact HB.out.1 j h1 h
        · have : j = k := by omega
          subst this; exact h0)
      clear hps hp2
      generalize cs[k] = ck at *
      obtain ⟨E, hE⟩ : ∃ E, gl ck = E := ⟨_, rfl⟩
      rw [hE] at HGK HM HNX
      clear hE
      go_wp2_with fail
      refine HGK.out.mono ?_
      rintro e w1 ⟨rfl, hb1⟩
      have HB1 := Lib.hid (Below.andThen HB.out.2 hb1 (Nat.le_refl _))
      clear hb1 HGK k0 k1 k2 k3
      cases E with
      | true =>
        have HM2 := Lib.hid (HM.out rfl)
        go_wp2_with fail
        go_ret
        exact ⟨ret_int HM2.out.symm, HB1.out⟩
      | false =>
        have HN := Lib.hid (HNX.out rfl)
        go_wp2_with fail
        exact ⟨⟨k + 1, by omega, by simp, Lib.hid ⟨HN.out, HB1.out⟩⟩, by simp [intOf]; omega⟩
    · have hd : decide ((k : Int) < (cs.length : Int)) = false := decide_eq_false (by omega)
      have hdn : decide (k < cs.length) = false := decide_eq_false hlt
      obtain rfl : k = cs.length := by omega
      have HN := Lib.hid (show E0 = -1 by
        rw [← HE0.out]
        have : cs.findIdx? gl = none := by
          rw [List.findIdx?_eq_none_iff]
          intro x hx
          obtain ⟨j, hj, rfl⟩ := List.getElem_of_mem hx
          exact HB.out.1 j hj hj
        rw [this])
      go_wp2_with fail
      go_ret
      exact ⟨ret_int HN.out.symm, HB.out.2⟩
/-- the first one of the least radius -/
def cmpV (a b : Cir) : Int := cmpC a.D a.R b.D b.R
def minL (m : Cir) (cs : List Cir) : Cir := cs.foldl (fun m x => if cmpV x m < 0 then x else m) m
theorem minL_snoc (m : Cir) (cs : List Cir) (x : Cir) : minL m (cs ++ [x]) = if cmpV x (minL m cs) < 0 then x else minL m cs := by unfold minL; rw [List.foldl_append]; rfl
theorem minL_mem : ∀ (cs : List Cir) (m : Cir), minL m cs = m ∨ minL m cs ∈ cs
  | [], m => .inl rfl
  | x :: xs, m => by
    have h : minL m (x :: xs) = minL (if cmpV x m < 0 then x else m) xs := rfl
    rw [h]
    rcases minL_mem xs (if cmpV x m < 0 then x else m) with h2 | h2
    · rw [h2]
      split
      · right; simp
      · exact .inl rfl
    · exact .inr (List.mem_cons_of_mem _ h2)
theorem cmpV_any (a b : Cir) (ha : CirB a) (hb : CirB b) (w : World) :
    Calls Try.prog 75 #[.agg #[.int .i64 a.X, .int .i64 a.Y, .int .i64 a.D, .int .i64 a.R], .agg #[.int .i64 b.X, .int .i64 b.Y, .int .i64 b.D, .int .i64 b.R]] w fun e w' => e = .returned (.int .i64 (cmpV a b)) ∧ Below w.heap.size w w' := by
  obtain ⟨X, Y, D, R⟩ := a
  obtain ⟨X', Y', D', R'⟩ := b
  obtain ⟨_, _, h1, h2⟩ := ha
  obtain ⟨_, _, h3, h4⟩ := hb
  dsimp only at h1 h2 h3 h4
  obtain ⟨d, rfl⟩ : ∃ d : Nat, D = (d : Int) := ⟨D.toNat, by omega⟩
  obtain ⟨r, rfl⟩ : ∃ d : Nat, R = (d : Int) := ⟨R.toNat, by omega⟩
  obtain ⟨d', rfl⟩ : ∃ d : Nat, D' = (d : Int) := ⟨D'.toNat, by omega⟩
  obtain ⟨r', rfl⟩ : ∃ d : Nat, R' = (d : Int) := ⟨R'.toNat, by omega⟩
  exact compare_any X Y X' Y' d r d' r' w (by omega) (by omega) (by omega) (by omega)
theorem cmp_enters : ∀ (args : Array Value) (W : World), (callFunc 75 args).run Try.prog W = .ok (.enter 75 args) W := enters_of Try.func75 (by kernel_rfl) rfl
set_option maxRecDepth 100000 in
set_option maxHeartbeats 1000000 in
theorem minFunc_any (c0 : Cir) (cs : List Cir) (v : Value) (w : World) (hv : SlC w v (c0 :: cs)) (hl : cs.length ≤ 1000000) (hB : ∀ c ∈ c0 :: cs, CirB c) :
    Calls Try.prog 85 #[v, .func (.func 75) #[] #[]] w fun e w' => e = .returned (minL c0 cs).V ∧ Below w.heap.size w w' := by
  obtain ⟨a, c, rfl, hc, hs⟩ := hv
  obtain ⟨g, o, rfl, hps⟩ : ∃ g o, a = some ⟨g, o, none⟩ ∧ CirsAt w g o (c0 :: cs) := hs.resolve_left (fun e => by cases e)
  have hcb : ∀ m ∈ c0 :: cs, Bd 1000000 m.X := fun m hm => (hB m hm).1
  have HPS := Lib.hid hps
  have HB := Lib.hid hB
  have HEN := cmp_enters
  have hlen : (c0 :: cs).length = cs.length + 1 := rfl
  rw [hlen] at hc ⊢
  have d0 : decide (((cs.length + 1 : Nat) : Int) < 1) = false := decide_eq_false (by omega)
  have k0 := hps.x 0 (by simp)
  have k1 := hps.y 0 (by simp)
  have k2 := hps.d 0 (by simp)
  have k3 := hps.r 0 (by simp)
  simp only [List.getElem_cons_zero, Nat.zero_mul, Nat.add_zero] at k0 k1 k2 k3
  have ba := Below.al (Below.refl w.heap.size w) (Nat.le_refl _) (.cells #[.int .i64 0, .int .i64 0, .int .i64 0, .int .i64 0] 30)
  have j0 := below_at ba hps.lt k0
  have j1 := below_at ba hps.lt k1
  have j2 := below_at ba hps.lt k2
  have j3 := below_at ba hps.lt k3
  clear hps hs hcb hB hlen k0 k1 k2 k3 ba
  go_enter Try.func85, Try.ntmps85
  go_wp2_with fail
  have r0 : Row ((w.alloc (.cells #[.int .i64 0, .int .i64 0, .int .i64 0, .int .i64 0] 30)).alloc (.cells #[.int .i64 c0.X, .int .i64 c0.Y, .int .i64 c0.D, .int .i64 c0.R] 30)) w.heap.size 30 [.int .i64 0, .int .i64 0, .int .i64 0, .int .i64 0] := (Row.new w 30 [.int .i64 0, .int .i64 0, .int .i64 0, .int .i64 0]).below (Below.al (Below.refl _ _) (Nat.le_refl _) _) (by simp)
  have r1 : Row ((w.alloc (.cells #[.int .i64 0, .int .i64 0, .int .i64 0, .int .i64 0] 30)).alloc (.cells #[.int .i64 c0.X, .int .i64 c0.Y, .int .i64 c0.D, .int .i64 c0.R] 30)) (w.heap.size + 1) 30 [.int .i64 c0.X, .int .i64 c0.Y, .int .i64 c0.D, .int .i64 c0.R] := by
    have := Row.new (w.alloc (.cells #[.int .i64 0, .int .i64 0, .int .i64 0, .int .i64 0] 30)) 30 [.int .i64 c0.X, .int .i64 c0.Y, .int .i64 c0.D, .int .i64 c0.R]
    simpa using this
  have HS0 := Lib.hid (show c0 = minL c0 (cs.take 0) ∧ Row ((w.alloc (.cells #[.int .i64 0, .int .i64 0, .int .i64 0, .int .i64 0] 30)).alloc (.cells #[.int .i64 c0.X, .int .i64 c0.Y, .int .i64 c0.D, .int .i64 c0.R] 30)) (w.heap.size + 1) 30 [.int .i64 c0.X, .int .i64 c0.Y, .int .i64 c0.D, .int .i64 c0.R] ∧ Row ((w.alloc (.cells #[.int .i64 0, .int .i64 0, .int .i64 0, .int .i64 0] 30)).alloc (.cells #[.int .i64 c0.X, .int .i64 c0.Y, .int .i64 c0.D, .int .i64 c0.R] 30)) w.heap.size 30 [.int .i64 0, .int .i64 0, .int .i64 0, .int .i64 0] ∧ Below w.heap.size w ((w.alloc (.cells #[.int .i64 0, .int .i64 0, .int .i64 0, .int .i64 0] 30)).alloc (.cells #[.int .i64 c0.X, .int .i64 c0.Y, .int .i64 c0.D, .int .i64 c0.R] 30)) from ⟨rfl, r1, r0, ((Below.refl w.heap.size w).alloc (Nat.le_refl _) _).alloc (by simp) _⟩)
  clear r0 r1 j0 j1 j2 j3
  go_loopw [6] (fun iv wr => ∃ (k : Nat) (m : Cir), k ≤ cs.length ∧ iv = .int .i64 ((k + 1 : Nat) : Int) ∧ Hid (m = minL c0 (cs.take k) ∧ Row wr (w.heap.size + 1) 30 [.int .i64 m.X, .int .i64 m.Y, .int .i64 m.D, .int .i64 m.R] ∧ Row wr w.heap.size 30 [.int .i64 0, .int .i64 0, .int .i64 0, .int .i64 0] ∧ Below w.heap.size w wr)) (fun iv _ => (cs.length + 1 - intOf iv).toNat)
  case atStart => exact ⟨0, c0, by omega, rfl, HS0⟩
  case round =>
    clear HS0
    obtain ⟨k, m, hk, rfl, HR⟩ := hrel
    have kw : IntKind.i64.wrap (((k + 1 : Nat) : Int) + 1) = ((k + 1 + 1 : Nat) : Int) := by rw [i64_of _ (by omega) (by omega)]; omega
    by_cases hlt : k < cs.length
    · have hd : decide (((k + 1 : Nat) : Int) < ((cs.length + 1 : Nat) : Int)) = true := decide_eq_true (by omega)
      have hdn : decide (k + 1 < cs.length + 1) = true := decide_eq_true (by omega)
      have hdn2 : decide (k < cs.length) = true := decide_eq_true (by omega)
      have hp2 := HPS.out.below HR.out.2.2.2 HPS.out.lt
      have HCP := Lib.hid (fun (W : World) (hb : Below wr.heap.size wr W) => And.intro ((hp2.grow hb).x (k + 1) (by simp; omega)) (And.intro ((hp2.grow hb).y (k + 1) (by simp; omega)) (And.intro ((hp2.grow hb).d (k + 1) (by simp; omega)) ((hp2.grow hb).r (k + 1) (by simp; omega)))))
      simp only [List.getElem_cons_succ] at HCP
      have hmb : CirB m := by
        rw [HR.out.1]
        rcases minL_mem (cs.take k) c0 with h | h
        · rw [h]; exact HB.out c0 (by simp)
        · exact HB.out _ (List.mem_cons_of_mem _ (List.mem_of_mem_take h))
      have hcb : CirB cs[k] := HB.out _ (List.mem_cons_of_mem _ (List.getElem_mem hlt))
      have HCV := Lib.hid (fun (W : World) => cmpV_any cs[k] m hcb hmb W)
      have HSN := Lib.hid (show minL c0 (cs.take (k + 1)) = if cmpV cs[k] (minL c0 (cs.take k)) < 0 then cs[k] else minL c0 (cs.take k) by rw [List.take_succ_eq_append_getElem hlt, minL_snoc])
      rw [← HR.out.1] at HSN
      clear hp2 hmb hcb
      generalize cs[k] = ck at *
      obtain ⟨q, hq⟩ : ∃ q, cmpV ck m = q := ⟨_, rfl⟩
      rw [hq] at HCV HSN
      obtain ⟨E, hE⟩ : ∃ E, decide (q < 0) = E := ⟨_, rfl⟩
      have HE := Lib.hid hE
      clear hq hE
      go_wp2_with fail
      refine wp_region_box (by kernel_rfl) (by kernel_rfl) [20, 21, 22, 23, 24, 25, 26, 27] [(fun v => v = .func (.func 75) #[] #[]), (fun v => v = .slice (some ⟨g, o, none⟩) (cs.length + 1) c), (fun v => v = .int .i64 ((k + 1 : Nat) : Int)), (fun v => v = .pointer (some ⟨g, o + (k + 1) * 4, none⟩)), (fun v => v = .agg #[.int .i64 ck.X, .int .i64 ck.Y, .int .i64 ck.D, .int .i64 ck.R]), (fun v => v = .agg #[.int .i64 m.X, .int .i64 m.Y, .int .i64 m.D, .int .i64 m.R]), (fun v => v = .int .i64 q), (fun v => v = .bool E)] [none, none, none, none, none, none, none, none] [none, none, none, none, none, none, none, none] 8 rfl (by kernel_rfl) ?tr ⟨[u20, u21, u22, u23, u24, u25, u26, u27], by simp only [putAll, Act.put, List.setIfInBounds_toArray, List.set_cons_succ, List.set_cons_zero], rfl⟩ ?steps ?fin
      case tr =>
        rintro i v h
        rcases i with _ | _ | _ | _ | _ | _ | _ | _ | i
        all_goals first | trivial | (exfalso; rcases h with h | h <;> simp at h)
      case steps =>
        simp only [boxSteps, Nat.reduceAdd, Nat.zero_add, List.getD_cons_succ, List.getD_cons_zero]
        refine ⟨?_, ?_, ?_, ?_, ?_, ?_, ?_, ?_, trivial⟩
        · rintro vs W K hc hvl hw hK
          obtain ⟨x0, x1, x2, x3, x4, x5, x6, x7, rfl⟩ := len8 hvl
          have HK := Lib.hid hK
          have HC := Lib.hid hc
          have HW := Lib.hid hw
          clear hK hc hw hvl
          simp only [putAll, Act.put, List.setIfInBounds_toArray, List.set_cons_succ, List.set_cons_zero]
          clear HW
          go_wp2_with fail
          have fin := HK.out (.func (.func 75) #[] #[]) W (Below.refl _ _) rfl
          simp only [putAll, Act.put, List.setIfInBounds_toArray, List.set_cons_succ, List.set_cons_zero] at fin
          exact fin
        · rintro vs W K hc hvl hw hK
          obtain ⟨x0, x1, x2, x3, x4, x5, x6, x7, rfl⟩ := len8 hvl
          have HK := Lib.hid hK
          have HC := Lib.hid hc
          have HW := Lib.hid hw
          clear hK hc hw hvl
          simp only [putAll, Act.put, List.setIfInBounds_toArray, List.set_cons_succ, List.set_cons_zero]
          clear HW
          go_wp2_with fail
          have fin := HK.out (.slice (some ⟨g, o, none⟩) (cs.length + 1) c) W (Below.refl _ _) rfl
          simp only [putAll, Act.put, List.setIfInBounds_toArray, List.set_cons_succ, List.set_cons_zero] at fin
          exact fin
        · rintro vs W K hc hvl hw hK
          obtain ⟨x0, x1, x2, x3, x4, x5, x6, x7, rfl⟩ := len8 hvl
          have HK := Lib.hid hK
          have HC := Lib.hid hc
          have HW := Lib.hid hw
          clear hK hc hw hvl
          simp only [putAll, Act.put, List.setIfInBounds_toArray, List.set_cons_succ, List.set_cons_zero]
          clear HW
          go_wp2_with fail
          have fin := HK.out (.int .i64 ((k + 1 : Nat) : Int)) W (Below.refl _ _) rfl
          simp only [putAll, Act.put, List.setIfInBounds_toArray, List.set_cons_succ, List.set_cons_zero] at fin
          exact fin
        · rintro vs W K hc hvl hw hK
          obtain ⟨x0, x1, x2, x3, x4, x5, x6, x7, rfl⟩ := len8 hvl
          have HK := Lib.hid hK
          have HC := Lib.hid hc
          have HW := Lib.hid hw
          clear hK hc hw hvl
          obtain rfl : x1 = .slice (some ⟨g, o, none⟩) (cs.length + 1) c := box_get (HW.out ⟨1, .data⟩ (by simp) rfl) rfl
          obtain rfl : x2 = .int .i64 ((k + 1 : Nat) : Int) := box_get (HW.out ⟨2, .data⟩ (by simp) rfl) rfl
          simp only [putAll, Act.put, List.setIfInBounds_toArray, List.set_cons_succ, List.set_cons_zero]
          clear HW
          go_wp2_with fail
          have fin := HK.out (.pointer (some ⟨g, o + (k + 1) * 4, none⟩)) W (Below.refl _ _) rfl
          simp only [putAll, Act.put, List.setIfInBounds_toArray, List.set_cons_succ, List.set_cons_zero] at fin
          exact fin
        · rintro vs W K hc hvl hw hK
          obtain ⟨x0, x1, x2, x3, x4, x5, x6, x7, rfl⟩ := len8 hvl
          have HK := Lib.hid hK
          have HC := Lib.hid hc
          have HW := Lib.hid hw
          clear hK hc hw hvl
          obtain rfl : x3 = .pointer (some ⟨g, o + (k + 1) * 4, none⟩) := box_get (HW.out ⟨3, .data⟩ (by simp) rfl) rfl
          simp only [putAll, Act.put, List.setIfInBounds_toArray, List.set_cons_succ, List.set_cons_zero]
          obtain ⟨k0, k1, k2, k3⟩ := HCP.out W HC.out
          clear HW
          go_wp2_with fail
          have fin := HK.out (.agg #[.int .i64 ck.X, .int .i64 ck.Y, .int .i64 ck.D, .int .i64 ck.R]) W (Below.refl _ _) rfl
          simp only [putAll, Act.put, List.setIfInBounds_toArray, List.set_cons_succ, List.set_cons_zero] at fin
          exact fin
        · rintro vs W K hc hvl hw hK
          obtain ⟨x0, x1, x2, x3, x4, x5, x6, x7, rfl⟩ := len8 hvl
          have HK := Lib.hid hK
          have HC := Lib.hid hc
          have HW := Lib.hid hw
          clear hK hc hw hvl
          simp only [putAll, Act.put, List.setIfInBounds_toArray, List.set_cons_succ, List.set_cons_zero]
          have rr := HR.out.2.1.below HC.out HR.out.2.1.lt
          have k0 := rr.cell 0
          have k1 := rr.cell 1
          have k2 := rr.cell 2
          have k3 := rr.cell 3
          simp only [List.getElem?_cons_zero, List.getElem?_cons_succ] at k0 k1 k2 k3
          clear rr
          clear HW
          go_wp2_with fail
          have fin := HK.out (.agg #[.int .i64 m.X, .int .i64 m.Y, .int .i64 m.D, .int .i64 m.R]) W (Below.refl _ _) rfl
          simp only [putAll, Act.put, List.setIfInBounds_toArray, List.set_cons_succ, List.set_cons_zero] at fin
          exact fin
        · rintro vs W K hc hvl hw hK
          obtain ⟨x0, x1, x2, x3, x4, x5, x6, x7, rfl⟩ := len8 hvl
          have HK := Lib.hid hK
          have HC := Lib.hid hc
          have HW := Lib.hid hw
          clear hK hc hw hvl
          obtain rfl : x0 = .func (.func 75) #[] #[] := box_get (HW.out ⟨0, .data⟩ (by simp) rfl) rfl
          obtain rfl : x4 = .agg #[.int .i64 ck.X, .int .i64 ck.Y, .int .i64 ck.D, .int .i64 ck.R] := box_get (HW.out ⟨4, .data⟩ (by simp) rfl) rfl
          obtain rfl : x5 = .agg #[.int .i64 m.X, .int .i64 m.Y, .int .i64 m.D, .int .i64 m.R] := box_get (HW.out ⟨5, .data⟩ (by simp) rfl) rfl
          simp only [putAll, Act.put, List.setIfInBounds_toArray, List.set_cons_succ, List.set_cons_zero]
          clear HW
          go_wp2_with fail
          refine (HCV.out W).mono ?_
          rintro e W' ⟨rfl, hb'⟩
          have HB' := Lib.hid hb'
          clear hb'
          go_wp2_with fail
          have fin := HK.out (.int .i64 q) W' HB'.out rfl
          simp only [putAll, Act.put, List.setIfInBounds_toArray, List.set_cons_succ, List.set_cons_zero] at fin
          exact fin
        · rintro vs W K hc hvl hw hK
          obtain ⟨x0, x1, x2, x3, x4, x5, x6, x7, rfl⟩ := len8 hvl
          have HK := Lib.hid hK
          have HC := Lib.hid hc
          have HW := Lib.hid hw
          clear hK hc hw hvl
          obtain rfl : x6 = .int .i64 q := box_get (HW.out ⟨6, .data⟩ (by simp) rfl) rfl
          simp only [putAll, Act.put, List.setIfInBounds_toArray, List.set_cons_succ, List.set_cons_zero]
          have hE2 : decide (q < 0) = E := HE.out
          clear HW
          go_wp2_with fail
          have fin := HK.out (.bool E) W (Below.refl _ _) rfl
          simp only [putAll, Act.put, List.setIfInBounds_toArray, List.set_cons_succ, List.set_cons_zero] at fin
          exact fin
      case fin =>
        rintro vs W hJ
        obtain ⟨x0, x1, x2, x3, x4, x5, x6, x7, rfl⟩ := len8 hJ.ln
        obtain rfl : x7 = .bool E := box_get (hJ.val 7 rfl) rfl
        have HC := Lib.hid hJ.bl
        clear hJ
        simp only [putAll, Act.put, List.setIfInBounds_toArray, List.set_cons_succ, List.set_cons_zero]
        have HR1 := Lib.hid (And.intro (HR.out.2.1.below HC.out HR.out.2.1.lt) (And.intro (HR.out.2.2.1.below HC.out HR.out.2.2.1.lt) (Below.andThen HR.out.2.2.2 HC.out (Nat.le_refl _))))
        cases E with
        | true =>
          have hq := of_decide_eq_true HE.out
          have HSM := Lib.hid (show ck = minL c0 (cs.take (k + 1)) by rw [HSN.out, if_pos hq])
          obtain ⟨k0, k1, k2, k3⟩ := HCP.out W HC.out
          have rT := HR1.out.1
          have t0 := rT.cell 0
          have t1 := rT.cell 1
          have t2 := rT.cell 2
          have t3 := rT.cell 3
          have g0 := frozen_of_row _ (w.heap.size + 1) 0 _ _ rT
          have g1 := frozen_of_row _ (w.heap.size + 1) 1 _ _ rT
          have g2 := frozen_of_row _ (w.heap.size + 1) 2 _ _ rT
          have g3 := frozen_of_row _ (w.heap.size + 1) 3 _ _ rT
          simp only [List.getElem?_cons_zero, List.getElem?_cons_succ] at t0 t1 t2 t3
          clear rT hq
          go_wp2_with fail
          refine ⟨⟨k + 1, ck, by omega, by simp, Lib.hid ⟨HSM.out, by simpa using (((HR1.out.1.set 0 (.int .i64 ck.X)).set 1 (.int .i64 ck.Y)).set 2 (.int .i64 ck.D)).set 3 (.int .i64 ck.R), ?_, ?_⟩⟩, by simp [intOf]; omega⟩
          · exact (((HR1.out.2.1.other 0 _ (by omega)).other 1 _ (by omega)).other 2 _ (by omega)).other 3 _ (by omega)
          · exact (((HR1.out.2.2.setCell (p := ⟨w.heap.size + 1, 0, none⟩) (by dsimp only; omega) _).setCell (p := ⟨w.heap.size + 1, 1, none⟩) (by dsimp only; omega) _).setCell (p := ⟨w.heap.size + 1, 2, none⟩) (by dsimp only; omega) _).setCell (p := ⟨w.heap.size + 1, 3, none⟩) (by dsimp only; omega) _
        | false =>
          have hq := of_decide_eq_false HE.out
          have HSM := Lib.hid (show m = minL c0 (cs.take (k + 1)) by rw [HSN.out, if_neg hq])
          clear hq
          go_wp2_with fail
          exact ⟨⟨k + 1, m, by omega, by simp, Lib.hid ⟨HSM.out, HR1.out⟩⟩, by simp [intOf]; omega⟩
    · have hd : decide (((k + 1 : Nat) : Int) < ((cs.length + 1 : Nat) : Int)) = false := decide_eq_false (by omega)
      have hdn : decide (k + 1 < cs.length + 1) = false := decide_eq_false (by omega)
      have hdn2 : decide (k < cs.length) = false := decide_eq_false (by omega)
      obtain rfl : k = cs.length := by omega
      have HM := Lib.hid (show m = minL c0 cs by have := HR.out.1; rwa [List.take_length] at this)
      have x0 := HR.out.2.1.cell 0
      have x1 := HR.out.2.1.cell 1
      have x2 := HR.out.2.1.cell 2
      have x3 := HR.out.2.1.cell 3
      have rT := HR.out.2.2.1
      have t0 := rT.cell 0
      have t1 := rT.cell 1
      have t2 := rT.cell 2
      have t3 := rT.cell 3
      have g0 := frozen_of_row _ w.heap.size 0 _ _ rT
      have g1 := frozen_of_row _ w.heap.size 1 _ _ rT
      have g2 := frozen_of_row _ w.heap.size 2 _ _ rT
      have g3 := frozen_of_row _ w.heap.size 3 _ _ rT
      simp only [List.getElem?_cons_zero, List.getElem?_cons_succ] at x0 x1 x2 x3 t0 t1 t2 t3
      clear rT
      go_wp2_with fail
      have hr := (((HR.out.2.2.1.set 0 (.int .i64 m.X)).set 1 (.int .i64 m.Y)).set 2 (.int .i64 m.D)).set 3 (.int .i64 m.R)
      have v0 := hr.cell 0
      have v1 := hr.cell 1
      have v2 := hr.cell 2
      have v3 := hr.cell 3
      simp only [List.set_cons_zero, List.set_cons_succ, List.getElem?_cons_zero, List.getElem?_cons_succ] at v0 v1 v2 v3
      refine bodyPost_ret (v := cirV m.X m.Y m.D m.R) (by simp [results, Try.results85, go_sem, v0, v1, v2, v3, cirV]) rfl ⟨by rw [HM.out]; rfl, ?_⟩
      exact (((HR.out.2.2.2.setCell (p := ⟨w.heap.size, 0, none⟩) (by dsimp only; omega) _).setCell (p := ⟨w.heap.size, 1, none⟩) (by dsimp only; omega) _).setCell (p := ⟨w.heap.size, 2, none⟩) (by dsimp only; omega) _).setCell (p := ⟨w.heap.size, 3, none⟩) (by dsimp only; omega) _
end Go.Proofs.Ytlemipnplgbckaa
namespace Go.Proofs.Ytlemipnplgbckaa
open Go.RowKit Go.Shelf
attribute [local go_sem] Oper.semAt_some
theorem info30 : (Try.prog.info? 30).map (fun i => (i.zero, i.size, i.bytes)) = some (some (.agg #[.int .i64 0, .int .i64 0, .int .i64 0, .int .i64 0]), 4, 32) := by kernel_rfl
def flatC : List Cir → List Value
  | [] => []
  | c :: cs => .int .i64 c.X :: .int .i64 c.Y :: .int .i64 c.D :: .int .i64 c.R :: flatC cs
theorem flatC_length : ∀ cs : List Cir, (flatC cs).length = cs.length * 4
  | [] => rfl
  | c :: cs => by simp only [flatC, List.length_cons, flatC_length cs]; omega
theorem flatC_snoc (c : Cir) : ∀ cs : List Cir, flatC (cs ++ [c]) = flatC cs ++ [.int .i64 c.X, .int .i64 c.Y, .int .i64 c.D, .int .i64 c.R]
  | [] => rfl
  | x :: xs => by simp only [List.cons_append, flatC, flatC_snoc c xs]
theorem flatC_get : ∀ (cs : List Cir) (i : Nat) (h : i < cs.length), (flatC cs)[i * 4]? = some (.int .i64 cs[i].X) ∧ (flatC cs)[i * 4 + 1]? = some (.int .i64 cs[i].Y) ∧ (flatC cs)[i * 4 + 2]? = some (.int .i64 cs[i].D) ∧ (flatC cs)[i * 4 + 3]? = some (.int .i64 cs[i].R)
  | c :: cs, 0, _ => ⟨rfl, rfl, rfl, rfl⟩
  | c :: cs, i + 1, h => by
    have := flatC_get cs i (by simpa using h)
    simp only [flatC, List.getElem_cons_succ]
    rw [show (i + 1) * 4 = i * 4 + 1 + 1 + 1 + 1 by omega]
    exact this
theorem flatC_set : ∀ (cs : List Cir) (i : Nat) (c : Cir), flatC (cs.set i c) = ((((flatC cs).set (i * 4) (.int .i64 c.X)).set (i * 4 + 1) (.int .i64 c.Y)).set (i * 4 + 2) (.int .i64 c.D)).set (i * 4 + 3) (.int .i64 c.R)
  | [], _, _ => rfl
  | x :: xs, 0, c => rfl
  | x :: xs, i + 1, c => by
    rw [show (i + 1) * 4 = i * 4 + 1 + 1 + 1 + 1 by omega]
    simp only [List.set_cons_succ, flatC]
    rw [flatC_set xs i c]
theorem flatC_take : ∀ (cs : List Cir) (m : Nat), (flatC cs).take (m * 4) = flatC (cs.take m)
  | [], m => by simp [flatC]
  | c :: cs, 0 => by simp [flatC]
  | c :: cs, m + 1 => by
    rw [show (m + 1) * 4 = m * 4 + 1 + 1 + 1 + 1 by omega]
    simp only [flatC, List.take_succ_cons]
    rw [flatC_take cs m]
/-- circles in a block of their own -/
def OwnC (W : World) (n₀ g cap : Nat) (cs : List Cir) : Prop := W.ownsRow n₀ 30 4 (.slice (some ⟨g, 0, none⟩) cs.length cap) cs.length (flatC cs)
theorem OwnC.heap {W : World} {n₀ g cap : Nat} {cs : List Cir} (h : OwnC W n₀ g cap cs) : ∃ cur : Array Value, W.heap[g]? = some (.cells cur 30 (0, 0)) ∧ n₀ ≤ g ∧ cs.length ≤ cap ∧ cap ≤ maxLen ∧ cur.size = cap * 4 ∧ cur.toList.take (cs.length * 4) = flatC cs := by
  rcases h.2 with ⟨e, _⟩ | ⟨g', cap', cur, e, h1, h2, h3, h4, h5, h6⟩
  · cases e
  · cases e
    exact ⟨cur, h2, h1, h3, h4, h5, h6⟩
theorem OwnC.at_ {W : World} {n₀ g cap : Nat} {cs : List Cir} (h : OwnC W n₀ g cap cs) : CirsAt W g 0 cs := by
  obtain ⟨cur, h2, _⟩ := h.heap
  refine ⟨?_, fun i hi => ?_, fun i hi => ?_, fun i hi => ?_, fun i hi => ?_⟩
  · rcases Nat.lt_or_ge g W.heap.size with h3 | h3
    · exact h3
    · rw [Array.getElem?_eq_none h3] at h2; cases h2
  · rw [Nat.zero_add, h.cellAt _ (by omega)]; exact (flatC_get cs i hi).1
  · rw [Nat.zero_add, h.cellAt _ (by omega)]; exact (flatC_get cs i hi).2.1
  · rw [Nat.zero_add, h.cellAt _ (by omega)]; exact (flatC_get cs i hi).2.2.1
  · rw [Nat.zero_add, h.cellAt _ (by omega)]; exact (flatC_get cs i hi).2.2.2
theorem OwnC.slc {W : World} {n₀ g cap : Nat} {cs : List Cir} (h : OwnC W n₀ g cap cs) : SlC W (.slice (some ⟨g, 0, none⟩) cs.length cap) cs := by
  obtain ⟨cur, _, _, h3, _⟩ := h.heap
  exact ⟨_, cap, rfl, h3, .inr ⟨g, 0, rfl, h.at_⟩⟩
theorem OwnC.set {W : World} {n₀ g cap : Nat} {cs : List Cir} (h : OwnC W n₀ g cap cs) (i : Nat) (c : Cir) :
    OwnC ((((W.setCell ⟨g, i * 4, none⟩ (.int .i64 c.X)).setCell ⟨g, i * 4 + 1, none⟩ (.int .i64 c.Y)).setCell ⟨g, i * 4 + 2, none⟩ (.int .i64 c.D)).setCell ⟨g, i * 4 + 3, none⟩ (.int .i64 c.R)) n₀ g cap (cs.set i c) := by
  have h1 := (h.stored (i * 4) (.int .i64 c.X)).1
  have h2 := (World.ownsRow.stored h1 (i * 4 + 1) (.int .i64 c.Y)).1
  have h3 := (World.ownsRow.stored h2 (i * 4 + 2) (.int .i64 c.D)).1
  have h4 := (World.ownsRow.stored h3 (i * 4 + 3) (.int .i64 c.R)).1
  unfold OwnC
  rw [flatC_set, List.length_set]
  exact h4
theorem setCell_heap (W : World) (g i : Nat) (v : Value) (cur : Array Value) (h : W.heap[g]? = some (.cells cur 30 (0, 0))) : (W.setCell ⟨g, i, none⟩ v).heap[g]? = some (.cells (cur.setIfInBounds i v) 30 (0, 0)) := by
  have hlt := (Array.getElem?_eq_some_iff.1 h).1
  obtain ⟨_, he⟩ := Array.getElem?_eq_some_iff.1 h
  simp [World.setCell, hlt, Array.getElem_modify, he]
theorem setCells_beyond {g n₀ : Nat} (hg : n₀ ≤ g) : ∀ (vs : List Value) (o : Nat) (W : World) (cur : Array Value), W.heap[g]? = some (.cells cur 30 (0, 0)) → Below n₀ W (W.setCells g o vs) ∧ ∃ cur' : Array Value, (W.setCells g o vs).heap[g]? = some (.cells cur' 30 (0, 0)) ∧ cur'.size = cur.size ∧ ∀ k, k ≤ o → cur'.toList.take k = cur.toList.take k
  | [], o, W, cur, h => ⟨Below.refl _ _, cur, h, rfl, fun _ _ => rfl⟩
  | v :: vs, o, W, cur, h => by
    have h1 : (W.setCell ⟨g, o, none⟩ v).heap[g]? = some (.cells (cur.setIfInBounds o v) 30 (0, 0)) := by
      exact setCell_heap W g o v cur h
    obtain ⟨hb, cur', e1, e2, e3⟩ := setCells_beyond hg vs (o + 1) _ _ h1
    refine ⟨((Below.refl n₀ W).setCell (p := ⟨g, o, none⟩) hg v).trans hb, cur', e1, by rw [e2]; simp, fun k hk => ?_⟩
    rw [e3 k (by omega)]
    rw [Array.toList_setIfInBounds, List.take_set_of_le (by omega)]
theorem clearC {W : World} {n₀ g cap m cc : Nat} {L : List Cir} (h : OwnC W n₀ g cap L) (hm : m < L.length) (ty : TypeId) :
    ∃ W', (Builtin.clear_ #[78] ty #[.slice (some ⟨g, m * 4, none⟩) (L.length - m) cc]).run Try.prog W = .ok (.tuple #[]) W' ∧ OwnC W' n₀ g cap (L.take m) ∧ Below n₀ W W' := by
  obtain ⟨i0, hi, hz0, hz1, hz2⟩ := info_parts info30
  have hv : ∀ w, (zeroValue 30).run Try.prog w = .ok (.agg #[.int .i64 0, .int .i64 0, .int .i64 0, .int .i64 0]) w := fun w => by simp [zeroValue, typeInfo, hi, hz0]
  have ht : Try.prog.underlying 78 = some (.slice 30) := by simp [Try.underlying78]
  obtain ⟨n, hn⟩ : ∃ n, L.length - m = n := ⟨_, rfl⟩
  rw [hn]
  have hzc : (Builtin.zeroCells (Value.agg #[.int .i64 0, .int .i64 0, .int .i64 0, .int .i64 0]).cells n).toList = List.replicate (n * 4) (.int .i64 0) := by
    apply List.ext_getElem
    · simp [Builtin.zeroCells, Value.cells]
    · intro i h1 h2
      rcases (show i % 4 = 0 ∨ i % 4 = 1 ∨ i % 4 = 2 ∨ i % 4 = 3 by omega) with e | e | e | e <;> simp [Builtin.zeroCells, Value.cells, e]
  obtain ⟨cur, hh, hg, hcc, hml, hsz, htk⟩ := h.heap
  have hst := run_storeCells_cells (P := Try.prog) g (m * 4) (List.replicate (n * 4) (.int .i64 0)) 0 W (fun j hj => by
      rw [List.length_replicate] at hj
      have : m * 4 + j < cur.size := by rw [hsz]; omega
      simp [World.cell?, hh, this]) (fun j _ => by simp [World.frozen?, hh]) (by intro v hv'; rw [List.eq_of_mem_replicate hv']; rfl)
  simp only [Nat.add_zero] at hst
  obtain ⟨hb, cur', e1, e2, e3⟩ := setCells_beyond hg (List.replicate (n * 4) (.int .i64 0)) (m * 4) W cur hh
  refine ⟨_, ?_, ?_, hb⟩
  · obtain ⟨n', rfl⟩ : ∃ n', n = n' + 1 := ⟨n - 1, by omega⟩
    simp [Builtin.clear_, run_underlying ht, hv, hzc, hst]
  · refine ⟨by rw [flatC_length], .inr ⟨g, cap, cur', by rw [List.length_take, Nat.min_eq_left (by omega)], hg, e1, by rw [List.length_take]; omega, hml, by rw [e2, hsz], ?_⟩⟩
    have e4 := e3 (m * 4) (Nat.le_refl _)
    rw [List.length_take, Nat.min_eq_left (by omega), e4, ← flatC_take, ← htk, List.take_take, Nat.min_eq_left (by omega)]
end Go.Proofs.Ytlemipnplgbckaa
namespace Go.Proofs.Ytlemipnplgbckaa
open Go.RowKit Go.Shelf
attribute [local go_sem] Oper.semAt_some
theorem findIdx_split {α : Type} {p : α → Bool} {cs : List α} {k : Nat} (h : cs.findIdx? p = some k) : k < cs.length ∧ (cs.take (k + 1)).filter (fun c => !p c) = cs.take k := by
  rw [List.findIdx?_eq_some_iff_getElem] at h
  obtain ⟨hk, h1, h2⟩ := h
  refine ⟨hk, ?_⟩
  rw [List.take_succ_eq_append_getElem hk, List.filter_append]
  have e1 : (cs.take k).filter (fun c => !p c) = cs.take k := by
    rw [List.filter_eq_self]
    intro x hx
    obtain ⟨j, hj, rfl⟩ := List.getElem_of_mem hx
    rw [List.length_take] at hj
    rw [List.getElem_take]
    simpa using h2 j (by omega)
  rw [e1]
  simp [h1]
/-- the list in the middle of the deleting -/
structure DelS (gl : Cir → Bool) (cs L : List Cir) (i j : Nat) : Prop where
  len : L.length = cs.length
  le : i ≤ j
  jn : j ≤ cs.length
  front : L.take i = (cs.take j).filter fun c => !gl c
  back : L.drop j = cs.drop j
theorem DelS.at_ {gl : Cir → Bool} {cs L : List Cir} {i j : Nat} (h : DelS gl cs L i j) (hj : j < cs.length) : L[j]'(by have := h.len; omega) = cs[j] := by
  have h1 : (L.drop j)[0]? = (cs.drop j)[0]? := by rw [h.back]
  rw [List.getElem?_drop, List.getElem?_drop, Nat.add_zero, List.getElem?_eq_getElem (by have := h.len; omega), List.getElem?_eq_getElem hj] at h1
  exact Option.some.inj h1
theorem DelS.skip {gl : Cir → Bool} {cs L : List Cir} {i j : Nat} (h : DelS gl cs L i j) (hj : j < cs.length) (hg : gl cs[j] = true) : DelS gl cs L i (j + 1) := by
  refine ⟨h.len, by have := h.le; omega, hj, ?_, ?_⟩
  · rw [h.front, List.take_succ_eq_append_getElem hj, List.filter_append]; simp [hg]
  · rw [← List.drop_drop, h.back, List.drop_drop]
theorem DelS.keep {gl : Cir → Bool} {cs L : List Cir} {i j : Nat} (h : DelS gl cs L i j) (hj : j < cs.length) (hg : gl cs[j] = false) : DelS gl cs (L.set i cs[j]) (i + 1) (j + 1) := by
  have hi : i < L.length := by have := h.le; have := h.len; omega
  refine ⟨by rw [List.length_set]; exact h.len, by have := h.le; omega, hj, ?_, ?_⟩
  · rw [List.take_succ_eq_append_getElem (by rw [List.length_set]; exact hi), List.take_set_of_le (Nat.le_refl _), h.front, List.getElem_set_self, List.take_succ_eq_append_getElem hj, List.filter_append]
    simp [hg]
  · rw [List.drop_set_of_lt (by have := h.le; omega), ← List.drop_drop, h.back, List.drop_drop]
set_option maxRecDepth 100000 in
set_option maxHeartbeats 1000000 in
theorem deleteFunc_any (cs : List Cir) (g cap n₀ : Nat) (G : FuncId) (caps : Array Value) (gl : Cir → Bool) (w : World) (hv : OwnC w n₀ g cap cs) (hn : n₀ ≤ w.heap.size) (hl : cs.length ≤ 1000000)
    (hen : ∀ args W, (callFunc G args).run Try.prog W = .ok (.enter G args) W)
    (hg : ∀ W c, Below n₀ w W → c ∈ cs → Calls Try.prog G (#[.agg #[.int .i64 c.X, .int .i64 c.Y, .int .i64 c.D, .int .i64 c.R]] ++ caps) W fun e w' => e = .returned (.bool (gl c)) ∧ Below W.heap.size W w') :
    Calls Try.prog 86 #[.slice (some ⟨g, 0, none⟩) cs.length cap, .func (.func G) #[] caps] w fun e w' => e = .returned (.slice (some ⟨g, 0, none⟩) (cs.filter fun c => !gl c).length cap) ∧ OwnC w' n₀ g cap (cs.filter fun c => !gl c) ∧ Below n₀ w w' := by
  have HIX := Lib.hid (indexCir_any cs _ G caps gl w hv.slc hl hen (fun W c hb hm => hg W c (hb.mono hn) hm))
  have HO := Lib.hid hv
  have HG := Lib.hid hg
  have HN := Lib.hid hn
  obtain ⟨_, _, hng, hcc, _⟩ := hv.heap
  clear hv hg hn
  cases hf : cs.findIdx? gl with
  | none =>
    rw [hf] at HIX
    dsimp only at HIX
    have hfl : cs.filter (fun c => !gl c) = cs := by
      rw [List.filter_eq_self]
      rw [List.findIdx?_eq_none_iff] at hf
      intro x hx; simpa using hf x hx
    rw [hfl]
    clear hf hfl
    go_enter Try.func86, Try.ntmps86
    go_wp2_with fail
    refine HIX.out.mono ?_
    rintro e w1 ⟨rfl, hb1⟩
    have HB1 := Lib.hid (show Below n₀ w w1 from hb1.mono HN.out)
    have HO1 := Lib.hid (show OwnC w1 n₀ g cap cs from own_grow HO.out hb1)
    clear hb1 HIX
    go_wp2_with fail
    go_ret
    exact ⟨rfl, HO1.out, HB1.out⟩
  | some k0 =>
    rw [hf] at HIX
    dsimp only at HIX
    obtain ⟨hk0, hsp⟩ := findIdx_split hf
    have HS0 := Lib.hid (show DelS gl cs cs k0 (k0 + 1) from ⟨rfl, by omega, hk0, hsp.symm, rfl⟩)
    have hne : ((k0 : Int) == -1) = false := by simp <;> omega
    have hne2 : decide ((k0 : Int) = -1) = false := decide_eq_false (by omega)
    have kw0 : IntKind.i64.wrap ((k0 : Int) + 1) = ((k0 + 1 : Nat) : Int) := by rw [i64_of _ (by omega) (by omega)]; omega
    clear hf hsp
    go_enter Try.func86, Try.ntmps86
    go_wp2_with fail
    refine HIX.out.mono ?_
    rintro e w1 ⟨rfl, hb1⟩
    have HB1 := Lib.hid (show Below n₀ w w1 from hb1.mono HN.out)
    have HO1 := Lib.hid (show OwnC w1 n₀ g cap cs from own_grow HO.out hb1)
    clear hb1 HIX
    go_wp2_with fail
    go_loopw [5, 6] (fun iv jv wr => ∃ (i j : Nat) (L : List Cir), iv = .int .i64 (i : Int) ∧ jv = .int .i64 (j : Int) ∧ j ≤ cs.length ∧ i < j ∧ Hid (DelS gl cs L i j ∧ OwnC wr n₀ g cap L ∧ Below n₀ w wr)) (fun _ jv _ => (cs.length - intOf jv).toNat)
    case atStart => exact ⟨k0, k0 + 1, cs, rfl, by simp, by omega, by omega, Lib.hid ⟨HS0.out, HO1.out, HB1.out⟩⟩
    case round =>
      clear HS0 HO1 HB1
      obtain ⟨i, j, L, rfl, rfl, hj, hij, HR⟩ := hrel
      have kw : IntKind.i64.wrap ((j : Int) + 1) = ((j + 1 : Nat) : Int) := by rw [i64_of _ (by omega) (by omega)]; omega
      have kwi : IntKind.i64.wrap ((i : Int) + 1) = ((i + 1 : Nat) : Int) := by rw [i64_of _ (by omega) (by omega)]; omega
      by_cases hlt : j < cs.length
      · have hd : decide ((j : Int) < (cs.length : Int)) = true := decide_eq_true (by omega)
        have hdn : decide (j < cs.length) = true := decide_eq_true hlt
        have hLl := HR.out.1.len
        have hat := HR.out.1.at_ hlt
        have hC := HR.out.2.1.at_
        have k0' := hC.x j (by omega)
        have k1 := hC.y j (by omega)
        have k2 := hC.d j (by omega)
        have k3 := hC.r j (by omega)
        rw [hat, Nat.zero_add] at k0' k1 k2 k3
        have HGJ := Lib.hid (fun (W : World) (hb : Below wr.heap.size wr W) => HG.out W cs[j] (Below.trans HR.out.2.2 (hb.mono (Nat.le_trans HN.out HR.out.2.2.size))) (List.getElem_mem hlt))
        have HSK := Lib.hid (HR.out.1.skip hlt)
        have HKP := Lib.hid (HR.out.1.keep hlt)
        clear hat hC
        generalize cs[j] = c at *
        obtain ⟨E, hE⟩ : ∃ E, gl c = E := ⟨_, rfl⟩
        rw [hE] at HGJ HSK HKP
        clear hE hLl
        have rb := Row.new wr 30 [.int .i64 c.X, .int .i64 c.Y, .int .i64 c.D, .int .i64 c.R]
        have bb := Below.al (Below.refl wr.heap.size wr) (Nat.le_refl _) (.cells #[.int .i64 c.X, .int .i64 c.Y, .int .i64 c.D, .int .i64 c.R] 30)
        have RB := Lib.hid rb
        have BB := Lib.hid bb
        clear rb bb
        go_wp2_with fail
        refine (HGJ.out _ BB.out).mono ?_
        rintro e w2 ⟨rfl, hb2⟩
        have HB2 := Lib.hid (Below.andThen BB.out hb2 (Nat.le_refl _))
        have HRB := Lib.hid (RB.out.below hb2 RB.out.lt)
        have HO2 := Lib.hid (show OwnC w2 n₀ g cap L from own_grow HR.out.2.1 HB2.out)
        have HBW := Lib.hid (show Below n₀ w w2 from Below.trans HR.out.2.2 (HB2.out.mono (Nat.le_trans HN.out HR.out.2.2.size)))
        clear hb2 HGJ k0' k1 k2 k3
        cases E with
        | true =>
          have HSK2 := Lib.hid (HSK.out rfl)
          go_wp2_with fail
          exact ⟨⟨i, j + 1, L, rfl, by simp, by omega, by omega, Lib.hid ⟨HSK2.out, HO2.out, HBW.out⟩⟩, by simp [intOf]; omega⟩
        | false =>
          have HKP2 := Lib.hid (HKP.out rfl)
          have hic : i < cs.length := by omega
          have hiL : i < L.length := by have := HR.out.1.len; omega
          have x0 := HRB.out.cell 0
          have x1 := HRB.out.cell 1
          have x2 := HRB.out.cell 2
          have x3 := HRB.out.cell 3
          simp only [List.getElem?_cons_zero, List.getElem?_cons_succ] at x0 x1 x2 x3
          have y0 := HO2.out.at_.x i hiL
          have y1 := HO2.out.at_.y i hiL
          have y2 := HO2.out.at_.d i hiL
          have y3 := HO2.out.at_.r i hiL
          rw [Nat.zero_add] at y0 y1 y2 y3
          have f0 := HO2.out.frozenAt (i * 4)
          have f1 := HO2.out.frozenAt (i * 4 + 1)
          have f2 := HO2.out.frozenAt (i * 4 + 2)
          have f3 := HO2.out.frozenAt (i * 4 + 3)
          have HSET := Lib.hid (HO2.out.set i c)
          go_wp2_with fail
          refine ⟨⟨i + 1, j + 1, _, by simp, by simp, by omega, by omega, Lib.hid ⟨HKP2.out, HSET.out, ?_⟩⟩, by simp [intOf]; omega⟩
          exact (((HBW.out.setCell (p := ⟨g, i * 4, none⟩) hng _).setCell (p := ⟨g, i * 4 + 1, none⟩) hng _).setCell (p := ⟨g, i * 4 + 2, none⟩) hng _).setCell (p := ⟨g, i * 4 + 3, none⟩) hng _
      · have hd : decide ((j : Int) < (cs.length : Int)) = false := decide_eq_false (by omega)
        have hdn : decide (j < cs.length) = false := decide_eq_false hlt
        obtain rfl : j = cs.length := by omega
        have hLl := HR.out.1.len
        have HFR := Lib.hid (show L.take i = cs.filter (fun c => !gl c) by have := HR.out.1.front; rwa [List.take_length] at this)
        have HLF := Lib.hid (show (cs.filter fun c => !gl c).length = i by rw [← HFR.out, List.length_take]; omega)
        have hic : i ≤ cap := by omega
        have hnc : ¬ cap = i := by omega
        have HLL := Lib.hid hLl
        clear hLl
        obtain ⟨W', hcl, hoW, hbW⟩ := clearC (cc := cap - i) HR.out.2.1 (show i < L.length by have := HLL.out; omega) 0
        rw [HLL.out] at hcl
        rw [HFR.out] at hoW
        have HOW := Lib.hid hoW
        have HBW := Lib.hid (Below.trans HR.out.2.2 hbW)
        clear hoW hbW
        have hi2 : i ≤ cs.length := by omega
        go_wp2_with fail
        exact bodyPost_ret (v := .slice (some ⟨g, 0, none⟩) i cap) (by simp [results, Try.results86, go_sem]) rfl ⟨by rw [HLF.out], HOW.out, HBW.out⟩
end Go.Proofs.Ytlemipnplgbckaa
namespace Go.Proofs.Ytlemipnplgbckaa
open Go.RowKit Go.Shelf
attribute [local go_sem] Oper.semAt_some
def rowQ (a k : Nat) : List (Nat × Nat) := (List.range k).map (fun j : Nat => (a, a + 1 + j))
/-- the pairs before the k-th one that begins with i -/
def prB (n i k : Nat) : List (Nat × Nat) := ((List.range i).flatMap (fun a : Nat => rowQ a (n - (a + 1)))) ++ rowQ i k
/-- all pairs i < j below n, rising -/
def prL (n : Nat) : List (Nat × Nat) := (List.range n).flatMap (fun a : Nat => rowQ a (n - (a + 1)))
def encP (p : Nat × Nat) : Value := .agg #[.int .i64 (p.1 : Int), .int .i64 (p.2 : Int)]
theorem prB_0 (n : Nat) : prB n 0 0 = [] := by simp [prB, rowQ]
theorem prB_next (n i : Nat) : prB n (i + 1) 0 = prB n i (n - (i + 1)) := by
  unfold prB
  rw [List.range_succ, List.flatMap_append]
  simp [rowQ]
theorem prB_end (n : Nat) : prB n n 0 = prL n := by
  unfold prB prL
  simp [rowQ]
theorem prB_step (n i k : Nat) : prB n i (k + 1) = prB n i k ++ [(i, i + 1 + k)] := by
  unfold prB rowQ
  rw [List.range_succ, List.map_append, List.append_assoc]
  rfl
theorem rowQ_pre (a j k : Nat) (h : j ≤ k) : rowQ a j <+: rowQ a k := by
  obtain ⟨d, rfl⟩ : ∃ d, k = j + d := ⟨k - j, by omega⟩
  unfold rowQ
  rw [List.range_add, List.map_append]
  exact List.prefix_append _ _
theorem prB_pre (n i k : Nat) (hi : i < n) (hk : k ≤ n - (i + 1)) : prB n i k <+: prL n := by
  unfold prB prL
  obtain ⟨d, rfl⟩ : ∃ d, n = i + 1 + d := ⟨n - i - 1, by omega⟩
  rw [List.range_add, List.flatMap_append, List.range_succ, List.flatMap_append]
  obtain ⟨t, ht⟩ := rowQ_pre i k (i + 1 + d - (i + 1)) hk
  refine ⟨t ++ (List.map (fun x => i + 1 + x) (List.range d)).flatMap (fun a : Nat => rowQ a (i + 1 + d - (a + 1))), ?_⟩
  simp only [List.flatMap_cons, List.flatMap_nil, List.append_nil, List.append_assoc]
  rw [← List.append_assoc (rowQ i k) t, ht]
theorem rowQ_len (a k : Nat) : (rowQ a k).length = k := by simp [rowQ]
theorem flatQ_len (n : Nat) : ∀ i : Nat, i ≤ n → ((List.range i).flatMap (fun a : Nat => rowQ a (n - (a + 1)))).length ≤ i * n
  | 0, _ => by simp
  | i + 1, hi => by
    have ih := flatQ_len n i (by omega)
    rw [List.range_succ, List.flatMap_append, List.length_append]
    simp only [List.flatMap_cons, List.flatMap_nil, List.append_nil, rowQ_len]
    rw [Nat.add_mul, Nat.one_mul]; omega
theorem prL_len (n : Nat) : (prL n).length ≤ n * n := flatQ_len n n (Nat.le_refl _)
theorem mem_prL {n : Nat} {p : Nat × Nat} : p ∈ prL n ↔ p.1 < p.2 ∧ p.2 < n := by
  unfold prL rowQ
  simp only [List.mem_flatMap, List.mem_map, List.mem_range]
  constructor
  · rintro ⟨a, ha, j, hj, rfl⟩
    dsimp only; omega
  · rintro ⟨h1, h2⟩
    exact ⟨p.1, by omega, p.2 - p.1 - 1, by omega, Prod.ext rfl (by dsimp only; omega)⟩
set_option maxRecDepth 100000 in
set_option maxHeartbeats 1000000 in
/-- **the pairs come one after the other** -/
theorem pairs_in (nf l b n : Nat) (hn : n ≤ 1000) (J Jx : List (Nat × Nat) → World → Prop)
    (hY : ∀ (i k : Nat) W, i + 1 + k < n → Row W b 3 [.int .i64 (n : Int)] → J (prB n i k) W → YieldAt Fence.wide (nf - 1) Try.prog l #[encP (i, i + 1 + k)] W fun e W' =>
      (e = .returned (.bool true) ∧ J (prB n i (k + 1)) W' ∧ Row W' b 3 [.int .i64 (n : Int)]) ∨ (e = .returned (.bool false) ∧ Jx (prB n i (k + 1)) W'))
    (W : World) (rb : Row W b 3 [.int .i64 (n : Int)]) (h0 : J [] W) :
    CallsIn Fence.wide nf Try.prog 98 #[.func (.yield l) #[] #[], .pointer (some ⟨b, 0, none⟩)] W fun e W' => (∃ v, e = .returned v) ∧ (J (prL n) W' ∨ ∃ pre, pre <+: prL n ∧ Jx pre W') := by
  refine callsIn_of_wp Try.func98 rfl trivial ?_ rfl
  simp only [Try.ntmps98, List.size_toArray, List.length_cons, List.length_nil, Nat.reduceAdd, Nat.reduceSub, Array.replicate_succ, Array.replicate_zero, List.push_toArray, List.append_toArray, List.nil_append, List.cons_append]
  have HY := Lib.hid hY
  have H0 := Lib.hid (And.intro h0 rb)
  have c0 := rb.cell 0
  simp only [List.getElem?_cons_zero] at c0
  clear hY h0 rb
  gi_wp2_with fail
  clear c0
  gi_loopw [6] (fun fv wr => ∃ i : Nat, i ≤ n ∧ fv = .int .i64 (i : Int) ∧ Hid (J (prB n i 0) wr) ∧ Hid (Row wr b 3 [.int .i64 (n : Int)])) (fun fv _ => ((n : Int) - intOf fv).toNat)
  case atStart => exact ⟨0, Nat.zero_le _, rfl, Lib.hid (by rw [prB_0]; exact H0.out.1), Lib.hid H0.out.2⟩
  case round =>
    clear H0
    obtain ⟨i, hi, rfl, HJ, HB⟩ := hrel
    have iw : IntKind.i64.wrap ((i : Int) + 1) = ((i + 1 : Nat) : Int) := by rw [i64_of _ (by omega) (by omega)]; omega
    by_cases hlt : i < n
    · have hd : decide ((i : Int) < (n : Int)) = true := decide_eq_true (by omega)
      gi_wp2_with fail
      gi_loopw [4] (fun tv wx => ∃ k : Nat, i + 1 + k ≤ n ∧ tv = .int .i64 ((i + 1 + k : Nat) : Int) ∧ Hid (J (prB n i k) wx) ∧ Hid (Row wx b 3 [.int .i64 (n : Int)])) (fun tv _ => ((n : Int) - intOf tv).toNat)
      case atStart => exact ⟨0, by omega, rfl, HJ, HB⟩
      case round =>
        clear HJ HB iw
        obtain ⟨k, hk, rfl, HJ, HB⟩ := hrel
        have jc := HB.out.cell 0
        simp only [List.getElem?_cons_zero] at jc
        generalize hj : i + 1 + k = j at *
        have hj2 := Lib.hid hj
        clear hj
        have jw : IntKind.i64.wrap ((j : Int) + 1) = ((j + 1 : Nat) : Int) := by rw [i64_of _ (by omega) (by omega)]; omega
        by_cases hlt2 : j < n
        · have hd2 : decide ((j : Int) < (n : Int)) = true := decide_eq_true (by omega)
          obtain ⟨fn, tmps, assign, body, hyy, hR⟩ := HY.out i k wr (by have := hj2.out; omega) HB.out HJ.out
          rw [hj2.out] at hyy
          simp only [encP] at hyy
          have hR2 := hR.mono (R' := fun e W' => ∃ bb, e = .returned (.bool bb) ∧ Hid ((bb = true ∧ J (prB n i (k + 1)) W' ∧ Row W' b 3 [.int .i64 (n : Int)]) ∨ (bb = false ∧ Jx (prB n i (k + 1)) W'))) (by
            rintro e W' (⟨rfl, h⟩ | ⟨rfl, h⟩)
            · exact ⟨true, rfl, Lib.hid (.inl ⟨rfl, h⟩)⟩
            · exact ⟨false, rfl, Lib.hid (.inr ⟨rfl, h⟩)⟩)
          have HR := Lib.hid hR2
          clear hR hR2 HJ
          gi_wp2_with fail
          refine ⟨(fun h => by cases h), ?_⟩
          refine HR.out.mono ?_
          rintro e W3 ⟨bb, rfl, hp⟩
          cases bb
          · have HX := Lib.hid (show Jx (prB n i (k + 1)) W3 by
              rcases hp.out with ⟨h, _⟩ | ⟨_, h⟩
              · cases h
              · exact h)
            clear hp hyy HR
            gi_wp2_with fail
            refine bodyPost_ret (results_none rfl _ _ _) rfl ?_
            exact ⟨⟨_, rfl⟩, .inr ⟨_, prB_pre n i (k + 1) (by omega) (by have := hj2.out; omega), HX.out⟩⟩
          · have HX := Lib.hid (show J (prB n i (k + 1)) W3 ∧ Row W3 b 3 [.int .i64 (n : Int)] by
              rcases hp.out with ⟨_, h⟩ | ⟨h, _⟩
              · exact h
              · cases h)
            clear hp hyy HR
            gi_wp2_with fail
            go_roundw
            case rel => exact ⟨k + 1, by have := hj2.out; omega, by have := hj2.out; subst this; rfl, Lib.hid HX.out.1, Lib.hid HX.out.2⟩
            case measure => simp [intOf]; omega
        · have hd2 : decide ((j : Int) < (n : Int)) = false := decide_eq_false (by omega)
          have HJ2 := Lib.hid (show J (prB n (i + 1) 0) wr by
            have h := HJ.out
            have h2 := hj2.out
            rw [prB_next, show n - (i + 1) = k by omega]; exact h)
          have iw : IntKind.i64.wrap ((i : Int) + 1) = ((i + 1 : Nat) : Int) := by rw [i64_of _ (by omega) (by omega)]; omega
          clear HJ
          gi_wp2_with fail
          exact ⟨⟨i + 1, by omega, rfl, HJ2, HB⟩, by simp [intOf]; omega⟩
    · have hd : decide ((i : Int) < (n : Int)) = false := decide_eq_false (by omega)
      have HJ2 := Lib.hid (show J (prL n) wr by
        have h := HJ.out
        rw [show i = n by omega, prB_end] at h; exact h)
      clear HJ
      gi_wp2_with fail
      go_end0
      exact ⟨⟨_, rfl⟩, .inl HJ2.out⟩
end Go.Proofs.Ytlemipnplgbckaa
namespace Go.Proofs.Ytlemipnplgbckaa
open Go.RowKit Go.Shelf
attribute [local go_sem] Oper.semAt_some
theorem yield_any {m m' l : Nat} {P : Program} {args : Array Value} {W : World} {R : Ending → World → Prop} (h : YieldAt Fence.wide m P l args W R) : YieldAt Fence.wide m' P l args W R := by
  obtain ⟨fn, t, s, b, hy, hF, hr⟩ := h
  exact ⟨fn, t, s, b, hy, hF, fun c cs _ => hr c cs (room_wide _)⟩
theorem yield_mono {m l : Nat} {P : Program} {args : Array Value} {W : World} {R R' : Ending → World → Prop} (h : YieldAt Fence.wide m P l args W R) (hr : ∀ e w, R e w → R' e w) : YieldAt Fence.wide m P l args W R' := by
  obtain ⟨fn, t, s, b, hy, hR⟩ := h
  exact ⟨fn, t, s, b, hy, hR.mono hr⟩
theorem calls_any {n n' : Nat} {P : Program} {f : FuncId} {args : Array Value} {W : World} {R : Ending → World → Prop} (h : CallsIn Fence.wide n P f args W R) : CallsIn Fence.wide n' P f args W R :=
  ⟨h.1, fun cs _ => h.2 cs (room_wide _)⟩
/-- what an iterator may have laid: boxes of ints, of pairs, of functions -/
def isIt : Obj → Bool
  | .cells _ T _ => T == 3 || T == 28 || T == 116
  | _ => false
/-- the iterators' boxes from B on lie as they lay -/
def KeepsI (B : Nat) (W W' : World) : Prop := ∀ (k : Nat) (o : Obj), B ≤ k → W.heap[k]? = some o → isIt o = true → W'.heap[k]? = some o
theorem KeepsI.refl (B : Nat) (W : World) : KeepsI B W W := fun _ _ _ h _ => h
theorem KeepsI.trans {B : Nat} {X Y Z : World} (h : KeepsI B X Y) (k : KeepsI B Y Z) : KeepsI B X Z := fun i o hB hi ho => k i o hB (h i o hB hi ho) ho
theorem KeepsI.less {B B' : Nat} {X Y : World} (h : KeepsI B X Y) (hB : B ≤ B') : KeepsI B' X Y := fun i o hi h1 ho => h i o (by omega) h1 ho
theorem KeepsI.of_below {B : Nat} {X Y : World} (h : Below X.heap.size X Y) : KeepsI B X Y := fun i _ _ hi _ => (h.block i (Array.getElem?_eq_some_iff.1 hi).1).trans hi
theorem KeepsI.of_grown {B : Nat} {X Y : World} {row : Option Nat} (hg : X.grownBy Y row) (hr : ∀ r, row = some r → B ≤ r → ∃ o, X.heap[r]? = some o ∧ isIt o = false) : KeepsI B X Y := fun i o hB hi ho =>
  (hg.block i (Array.getElem?_eq_some_iff.1 hi).1 (fun e => by
    obtain ⟨o', h1, h2⟩ := hr i e.symm hB
    rw [hi] at h1; cases h1; rw [ho] at h2; cases h2)).trans hi
theorem KeepsI.put {B l : Nat} {W : World} {o o' : Obj} (hl : W.heap[l]? = some o) (ho : isIt o = false) : KeepsI B W (W.putObj l o') := fun i q _ hi hq => by
  by_cases e : i = l
  · subst e; rw [hl] at hi; cases hi; rw [hq] at ho; cases ho
  · exact (World.putObj_heap_other e).trans hi
theorem KeepsI.row {B b : Nat} {X Y : World} {E : TypeId} {vs : List Value} (h : KeepsI B X Y) (hB : B ≤ b) (hE : (E == 3 || E == 28 || E == 116) = true) (r : Row X b E vs) : Row Y b E vs := h b _ hB r hE
theorem lasts_block {B k : Nat} {o : Obj} (hk : k < B) : Lasts B (fun W => W.heap[k]? = some o) := fun _ _ _ hi hg hr =>
  (hg.block k (Array.getElem?_eq_some_iff.1 hi).1 (fun e => by have := (hr k e.symm).1; omega)).trans hi
theorem kf_below (B : Nat) {X Y : World} (h : Below X.heap.size X Y) : KeepsFrom B X Y := ⟨h.size, fun k _ _ hk _ => (h.block k (Array.getElem?_eq_some_iff.1 hk).1).trans hk⟩
theorem kf_less {B B' : Nat} {X Y : World} (h : KeepsFrom B X Y) (hB : B ≤ B') : KeepsFrom B' X Y := ⟨h.size, fun k o hk => h.same k o (by omega)⟩
theorem kf_put {B l : Nat} (W : World) (o : Obj) (hl : l < B) : KeepsFrom B W (W.putObj l o) := ⟨by simp, fun k _ hk hi _ => (World.putObj_heap_other (by omega)).trans hi⟩
/-- **an iterator that gives the elements of a list, one after the other** -/
def SeqL {α : Type} (g : Nat) (lb : Array Value) (enc : α → Value) (B : Nat) (all : List α) (w : World) : Prop :=
  ∀ (l : Nat) (J Jx : List α → World → Prop) (W : World), Below w.heap.size w W → (∀ s, Lasts W.heap.size (J s)) → (∀ s, Lasts W.heap.size (Jx s)) →
    (∀ pre x W1, pre ++ [x] <+: all → J pre W1 → YieldAt Fence.wide 1 Try.prog l #[enc x] W1 fun e W' =>
      (e = .returned (.bool true) ∧ J (pre ++ [x]) W' ∧ KeepsI B W1 W' ∧ KeepsFrom W.heap.size W1 W') ∨ (e = .returned (.bool false) ∧ Jx (pre ++ [x]) W' ∧ KeepsFrom W.heap.size W1 W')) →
    J [] W →
    CallsIn Fence.wide 1 Try.prog g (#[.func (.yield l) #[] #[]] ++ lb) W fun e W' => (∃ v, e = .returned v) ∧ (J all W' ∨ ∃ pre, pre <+: all ∧ Jx pre W')
/-- how a round's body may be left -/
def endsL {α : Type} (D B : Nat) (I : List α → World → Prop) (Ix : Code → List α → World → Prop) (xs : List α) (W : World) : Exit → Act → World → Prop
  | .normal, _, W' => KeepsFrom D W W' ∧ KeepsI B W W' ∧ I xs W'
  | .ret, _, W' => KeepsFrom D W W' ∧ Ix .ret xs W'
  | .exit id, _, W' => KeepsFrom D W W' ∧ Ix (.exit id) xs W'
  | _, _, _ => False
set_option maxHeartbeats 1000000 in
/-- **a range over such an iterator** -/
theorem range_list {α : Type} {g : Operand} {p0 : Tmp} {assign body : Code} {Q : Exit → Act → World → Prop} {a : Act} {w : World} {n : Nat} {gf : Nat} {lb : Array Value} {enc : α → Value} {B : Nat} {all : List α}
    (hseq : SeqL gf lb enc B all w) (hg : a.eval g = .func (.func gf) #[] lb) (eg : ∀ args w, (callFunc gf args).run Try.prog w = .ok (.enter gf args) w)
    (I : List α → World → Prop) (Ix : Code → List α → World → Prop) (hI : ∀ s, Lasts w.heap.size (I s)) (hIx : ∀ c s, Lasts w.heap.size (Ix c s)) (h0 : I [] w)
    (R : α → Act → World → Prop) (hR : ∀ x a', Lasts w.heap.size (R x a'))
    (hassign : ∀ (l : Nat) (x : α) (W : World) (K : Act → World → Prop), w.heap.size ≤ W.heap.size → (∀ a' W', R x a' W' → Below W.heap.size W W' → K a' W') →
      assign.wpIn (Fence.wide.inRound l) 1 Try.prog (Exit.then K (fun _ _ _ => False)) { tmps := a.tmps.setIfInBounds p0 (enc x), defers := [] } W)
    (hbody : ∀ (l : Nat) (x : α) (pre : List α) (a' : Act) (W : World), pre ++ [x] <+: all → w.heap.size ≤ W.heap.size → I pre W → R x a' W →
      body.wpIn (Fence.wide.inRound l) 1 Try.prog (endsL w.heap.size B I Ix (pre ++ [x]) W) a' W)
    (hdone : ∀ (D : Nat) (W : World), w.heap.size ≤ D → I all W → W.heap[D]? = some (.deferred (some [])) → Q .normal { a with defers := { target := .collected D, args := #[] } :: a.defers } W)
    (hstop : ∀ (D : Nat) (c : Code) (pre : List α) (W : World), w.heap.size ≤ D → pre <+: all → Ix c pre W → W.heap[D]? = some (.deferred (some [])) → c.wpIn Fence.wide n Try.prog Q { a with defers := { target := .collected D, args := #[] } :: a.defers } W) :
    (Code.rangeFunc g #[p0] assign body).wpIn Fence.wide n Try.prog Q a w := by
  refine wpIn_rangeFunc fun fn hfn => ?_
  generalize hD : w.heap.size = D at hI hIx hR hassign hbody hdone hstop
  obtain ⟨lp, hlp⟩ : ∃ lp : LoopState → Option Code → Obj, lp = fun st pe => .loop { state := st, pending := pe, fn, tmps := a.tmps, params := #[p0], assign, body, defers := D } := ⟨_, rfl⟩
  have henter : (Instr.enterLoop fn a.tmps #[p0] assign body Fence.wide.round).run Try.prog w = .ok (D + 1, [{ target := .collected D, args := #[] }]) ((w.alloc (.deferred (some []))).alloc (lp .ready none)) := by
    rw [hlp, ← hD]; exact run_enterLoop_outer _ _ _ _ _
  have bel : Below w.heap.size w ((w.alloc (.deferred (some []))).alloc (lp .ready none)) := ((Below.refl _ w).alloc (Nat.le_refl _) _).alloc (by simp) _
  have hL : ((w.alloc (.deferred (some []))).alloc (lp .ready none)).heap[D + 1]? = some (lp .ready none) := by
    have h := World.alloc_heap_new (w.alloc (.deferred (some []))) (lp .ready none)
    rwa [World.size_alloc, hD] at h
  have hK : ((w.alloc (.deferred (some []))).alloc (lp .ready none)).heap[D]? = some (.deferred (some [])) := by
    rw [← hD]; exact (Below.heap_alloc _ _ _ (by simp)).trans (World.alloc_heap_new w _)
  have hs : ((w.alloc (.deferred (some []))).alloc (lp .ready none)).heap.size = D + 2 := by simp [hD]
  have hi0 : I [] ((w.alloc (.deferred (some []))).alloc (lp .ready none)) := (hI []).grow h0 bel
  generalize (w.alloc (.deferred (some []))).alloc (lp .ready none) = W1 at *
  have up : ∀ {X : World → Prop}, Lasts D X → Lasts W1.heap.size X := fun h W W' row hi hg hr => h W W' row hi hg (fun r e => ⟨by have := (hr r e).1; omega, (hr r e).2⟩)
  refine ⟨D + 1, _, W1, { target := .fn (.func gf) lb, args := #[.func (.yield (D + 1)) #[] #[]] }, W1, gf, _, W1, henter, ?_, ?_, ?_, fun h => by simp [Fence.wide] at h, calls_any ((hseq (D + 1)
    (fun pre W => D + 1 < W.heap.size ∧ I pre W ∧ W.heap[D + 1]? = some (lp .ready none) ∧ W.heap[D]? = some (.deferred (some [])))
    (fun pre W => ∃ c, D + 1 < W.heap.size ∧ Ix c pre W ∧ W.heap[D + 1]? = some (lp .done (some c)) ∧ W.heap[D]? = some (.deferred (some [])))
    W1 bel ?_ ?_ ?_ ⟨by omega, hi0, hL, hK⟩).mono ?_)⟩
  · simp only [resolve, hg]
    simp [go_sem]
  · exact fun _ _ => trivial
  · simp [invoke, go_sem, eg]
  · exact fun s => (lasts_size _ _).and ((up (hI s)).and ((lasts_block (by omega)).and (lasts_block (by omega))))
  · rintro s W W' row ⟨c, h⟩ hg hr
    exact ⟨c, ((lasts_size _ _).and ((up (hIx c s)).and ((lasts_block (by omega)).and (lasts_block (by omega))))) W W' row h hg hr⟩
  · rintro pre x W hpre ⟨hsz, hi, hl, hk⟩
    have hl' := hl
    rw [hlp] at hl'
    have hy := run_yield (P := Try.prog) (args := #[enc x]) hl' rfl
    have ht : (#[p0].zip #[enc x]).foldl (fun (t : Array Value) (x : Tmp × Value) => t.setIfInBounds x.1 x.2) a.tmps = a.tmps.setIfInBounds p0 (enc x) := by simp
    replace hy := hy.trans (congrArg (fun t => Result.ok (Next.round (D + 1) fn t assign body) W) ht)
    refine ⟨fn, _, assign, body, hy, roundIn_of_wpIn hfn ?_⟩
    clear hy ht
    refine hassign _ x W _ (by omega) fun a' V hRx hV => ?_
    replace hl := (hV.block (D + 1) hsz).trans hl
    replace hk := (hV.block D (by omega)).trans hk
    replace hi : I pre V := (hI pre).grow hi hV
    have hkV : KeepsI B W V := KeepsI.of_below hV
    have hsz2 : D + 1 < V.heap.size := by have := hV.size; omega
    have hl2 := hl
    rw [hlp] at hl2
    refine ⟨_, run_beginRound hl2 rfl, ?_⟩
    have hb := hbody (D + 1) x pre a' _ hpre (by simp; omega) ((hI pre).put (lp .busy none) hi (by omega) hl (by rw [hlp]; rfl)) ((hR x a').put (lp .busy none) hRx (by omega) hl (by rw [hlp]; rfl))
    rw [hlp] at hb
    refine wpIn_mono hb ?_
    have h2 : (V.putObj (D + 1) (lp .busy none)).heap[D + 1]? = some (lp .busy none) := World.putObj_heap_same hsz2
    have k2 : (V.putObj (D + 1) (lp .busy none)).heap[D]? = some (.deferred (some [])) := (World.putObj_heap_other (by omega)).trans hk
    have kp2 : KeepsI B V (V.putObj (D + 1) (lp .busy none)) := KeepsI.put hl (by rw [hlp]; rfl)
    have z2 : (V.putObj (D + 1) (lp .busy none)).heap.size = V.heap.size := by simp
    have hVs := hV.size
    have e2 : V.putObj (D + 1) (.loop { state := .busy, pending := none, fn, tmps := a.tmps, params := #[p0], assign, body, defers := D }) = V.putObj (D + 1) (lp .busy none) := by rw [hlp]
    intro e a3 W3 hp
    have kw2 : KeepsFrom W1.heap.size W (V.putObj (D + 1) (lp .busy none)) := (kf_below _ hV).trans (kf_put _ _ (by omega))
    have kw3 : KeepsFrom D (V.putObj (D + 1) (lp .busy none)) W3 → ∀ o, KeepsFrom W1.heap.size W (W3.putObj (D + 1) o) := fun h o => (kw2.trans (kf_less h (by omega))).trans (kf_put _ _ (by omega))
    have fin : ∀ jump : Option Code, KeepsFrom D (V.putObj (D + 1) (lp .busy none)) W3 →
        (Instr.endRound (D + 1) jump).run Try.prog W3 = .ok (.bool jump.isNone) (W3.putObj (D + 1) (lp (if jump.isNone then .ready else .done) jump)) ∧
        W3.heap[D + 1]? = some (lp .busy none) ∧ D + 1 < W3.heap.size ∧ W.heap.size ≤ W3.heap.size ∧
        (W3.putObj (D + 1) (lp (if jump.isNone then .ready else .done) jump)).heap[D + 1]? = some (lp (if jump.isNone then .ready else .done) jump) ∧
        (W3.putObj (D + 1) (lp (if jump.isNone then .ready else .done) jump)).heap[D]? = some (.deferred (some [])) := fun jump h3 => by
      have q := h3.same _ _ (by omega) h2 (by rw [hlp]; rfl)
      have q' := q
      rw [hlp] at q'
      have t := run_endRound (P := Try.prog) jump q'
      have lt : D + 1 < W3.heap.size := (Array.getElem?_eq_some_iff.1 q).1
      refine ⟨by rw [t, hlp], q, lt, by have := h3.size; omega, World.putObj_heap_same lt, (World.putObj_heap_other (by omega)).trans (h3.same _ _ (Nat.le_refl _) k2 rfl)⟩
    cases e with
    | normal =>
      obtain ⟨h3, p3, i3⟩ := hp
      rw [show (V.putObj (D + 1) (.loop { state := .busy, pending := none, fn, tmps := a.tmps, params := #[p0], assign, body, defers := D })) = _ from e2] at h3 p3
      obtain ⟨hr, q, lt, sz, l4, k4⟩ := fin none h3
      exact ⟨_, _, hr, .inl ⟨rfl, ⟨by simpa using lt, (hI _).put _ i3 (by omega) q (by rw [hlp]; rfl), l4, k4⟩, hkV.trans (kp2.trans (p3.trans (KeepsI.put q (by rw [hlp]; rfl)))), kw3 h3 _⟩⟩
    | ret =>
      obtain ⟨h3, i3⟩ := hp
      rw [show (V.putObj (D + 1) (.loop { state := .busy, pending := none, fn, tmps := a.tmps, params := #[p0], assign, body, defers := D })) = _ from e2] at h3
      obtain ⟨hr, q, lt, sz, l4, k4⟩ := fin (some .ret) h3
      exact ⟨_, _, hr, .inr ⟨rfl, ⟨.ret, by simpa using lt, (hIx _ _).put _ i3 (by omega) q (by rw [hlp]; rfl), l4, k4⟩, kw3 h3 _⟩⟩
    | exit id =>
      obtain ⟨h3, i3⟩ := hp
      rw [show (V.putObj (D + 1) (.loop { state := .busy, pending := none, fn, tmps := a.tmps, params := #[p0], assign, body, defers := D })) = _ from e2] at h3
      obtain ⟨hr, q, lt, sz, l4, k4⟩ := fin (some (.exit id)) h3
      exact ⟨_, _, hr, .inr ⟨rfl, ⟨.exit id, by simpa using lt, (hIx _ _).put _ i3 (by omega) q (by rw [hlp]; rfl), l4, k4⟩, kw3 h3 _⟩⟩
    | goto t => exact hp.elim
    | panic ch => exact hp.elim
    | outgrown => exact hp.elim
  · rintro e W2 ⟨⟨v, rfl⟩, ⟨hsz, hi, hl, hk⟩ | ⟨pre, hpre, c, hsz, hi, hl, hk⟩⟩
    · have hl' := hl
      rw [hlp] at hl'
      exact ⟨none, _, run_endLoop hl' (by simp), hdone D _ (Nat.le_refl _) ((hI _).put _ hi (by omega) hl (by rw [hlp]; rfl)) ((World.putObj_heap_other (by omega)).trans hk)⟩
    · have hl' := hl
      rw [hlp] at hl'
      exact ⟨some c, _, run_endLoop hl' (by simp), hstop D c pre _ (Nat.le_refl _) hpre ((hIx c pre).put _ hi (by omega) hl (by rw [hlp]; rfl)) ((World.putObj_heap_other (by omega)).trans hk)⟩
end Go.Proofs.Ytlemipnplgbckaa
namespace Go.Proofs.Ytlemipnplgbckaa
open Go.RowKit Go.Shelf
attribute [local go_sem] Oper.semAt_some
theorem pairs_seq (n b B : Nat) (hn : n ≤ 1000) (hB : B ≤ b) (w : World) (r : Row w b 3 [.int .i64 (n : Int)]) : SeqL 98 #[.pointer (some ⟨b, 0, none⟩)] encP B (prL n) w := fun l J Jx W hW _ _ hY h0 => by
  refine (pairs_in 1 l b n hn J Jx ?_ W (r.below hW r.lt) h0)
  intro i k A hik hr hA
  have h := hY (prB n i k) (i, i + 1 + k) A (by rw [← prB_step]; exact prB_pre n i (k + 1) (by omega) (by omega)) hA
  rw [← prB_step] at h
  refine yield_any (yield_mono h ?_)
  rintro e W' (⟨he, hj, hk, _⟩ | ⟨he, hj, _⟩)
  · exact .inl ⟨he, hj, hk.row hB rfl hr⟩
  · exact .inr ⟨he, hj⟩
theorem box_start (w : World) (E : TypeId) (L : List Value) : Below w.heap.size w (w.alloc (.cells L.toArray E)) ∧ Row (w.alloc (.cells L.toArray E)) w.heap.size E L :=
  ⟨Below.al (Below.refl _ _) (Nat.le_refl _) _, Row.new _ _ _⟩
set_option maxHeartbeats 400000 in
theorem pairs_any (n : Int) (w : World) :
    Calls Try.prog 69 #[.int .i64 n] w fun e w' =>
      e = .returned (.func (.func 98) #[] #[.pointer (some ⟨w.heap.size, 0, none⟩)]) ∧ Below w.heap.size w w' ∧ Row w' w.heap.size 3 [.int .i64 n] := by
  have H := Lib.hid (box_start w 3 [.int .i64 n])
  go_enter Try.func69, Try.ntmps69
  go_wp2_with fail
  go_ret
  exact ⟨rfl, H.out⟩
set_option maxHeartbeats 400000 in
theorem triples_any (n : Int) (w : World) :
    Calls Try.prog 60 #[.int .i64 n] w fun e w' =>
      e = .returned (.func (.func 89) #[] #[.pointer (some ⟨w.heap.size, 0, none⟩)]) ∧ Below w.heap.size w w' ∧ Row w' w.heap.size 3 [.int .i64 n] := by
  have H := Lib.hid (box_start w 3 [.int .i64 n])
  go_enter Try.func60, Try.ntmps60
  go_wp2_with fail
  go_ret
  exact ⟨rfl, H.out⟩
def Marks (B : Nat) (ds : List Deferred) (W : World) : Prop := ∃ Ds : List Nat, ds = Ds.map (fun D => { target := .collected D, args := #[] }) ∧ Ds.Nodup ∧ ∀ D ∈ Ds, B ≤ D ∧ W.heap[D]? = some (.deferred (some []))
theorem marks_nil (B : Nat) (W : World) : Marks B [] W := ⟨[], rfl, List.nodup_nil, fun D h => by cases h⟩
theorem Marks.cons {B D : Nat} {ds : List Deferred} {W W' : World} (h : Marks B ds W) (hs : W.heap.size ≤ D) (hB : B ≤ W.heap.size) (hk : ∀ D', B ≤ D' → W.heap[D']? = some (.deferred (some [])) → W'.heap[D']? = some (.deferred (some []))) (hD : W'.heap[D]? = some (.deferred (some []))) :
    Marks B ({ target := .collected D, args := #[] } :: ds) W' := by
  obtain ⟨Ds, rfl, hn, hm⟩ := h
  refine ⟨D :: Ds, rfl, List.nodup_cons.2 ⟨fun h => ?_, hn⟩, fun E hE => ?_⟩
  · have := (Array.getElem?_eq_some_iff.1 (hm D h).2).1
    omega
  · rcases List.mem_cons.1 hE with rfl | hE
    · exact ⟨Nat.le_trans hB hs, hD⟩
    · exact ⟨(hm E hE).1, hk E (hm E hE).1 (hm E hE).2⟩
theorem Marks.keeps {B : Nat} {ds : List Deferred} {W W' : World} (h : Marks B ds W) (hk : ∀ D', B ≤ D' → W.heap[D']? = some (.deferred (some [])) → W'.heap[D']? = some (.deferred (some []))) : Marks B ds W' := by
  obtain ⟨Ds, rfl, hn, hm⟩ := h
  exact ⟨Ds, rfl, hn, fun E hE => ⟨(hm E hE).1, hk E (hm E hE).1 (hm E hE).2⟩⟩
theorem Marks.below {B : Nat} {ds : List Deferred} {W W' : World} (h : Marks B ds W) (hb : Below W.heap.size W W') : Marks B ds W' :=
  h.keeps fun D _ hD => by rw [hb.block D (Array.getElem?_eq_some_iff.1 hD).1]; exact hD
/-- a function leaves by its marks -/
theorem leaves_marks {F : Fence} {n : Nat} {P : Program} {fn : Func} {tmps : Array Value} {R : Ending → World → Prop} {B : Nat} (I : World → Prop) (hI : Lasts B I)
    (hend : ∀ W, I W → LeavesIn F n P fn tmps R [] .returning W) : ∀ (ds : List Deferred) (W : World), Marks B ds W → I W → LeavesInM F n P fn tmps R ds .returning W := by
  rintro ds W ⟨Ds, rfl, hn, hm⟩ hi
  induction Ds generalizing W with
  | nil => exact hend W hi
  | cons D Ds ih =>
    obtain ⟨hnot, hn⟩ := List.nodup_cons.1 hn
    obtain ⟨hB, hD⟩ := hm D List.mem_cons_self
    refine ⟨by simp, .inl ⟨D, _, rfl, run_takeDeferred hD, ?_⟩⟩
    refine ih _ hn (fun E hE => ⟨(hm E (List.mem_cons_of_mem _ hE)).1, ?_⟩) (hI.put _ hi hB hD rfl)
    have hne : E ≠ D := fun e => hnot (by rw [← e]; exact hE)
    rw [World.putObj_heap_other (by first | exact hne | exact hne.symm)]
    exact (hm E (List.mem_cons_of_mem _ hE)).2
def encT (t : Nat × Nat × Nat) : Value := .agg #[.int .i64 (t.1 : Int), .int .i64 (t.2.1 : Int), .int .i64 (t.2.2 : Int)]
def rowT (p : Nat × Nat) (k : Nat) : List (Nat × Nat × Nat) := (List.range k).map (fun j : Nat => (p.1, p.2, p.2 + 1 + j))
/-- all triples over some pairs -/
def trF (n : Nat) (ps : List (Nat × Nat)) : List (Nat × Nat × Nat) := ps.flatMap (fun p => rowT p (n - (p.2 + 1)))
def trB (n : Nat) (ps : List (Nat × Nat)) (x : Nat × Nat) (k : Nat) : List (Nat × Nat × Nat) := trF n ps ++ rowT x k
/-- all triples i < j < k below n, rising -/
def trL (n : Nat) : List (Nat × Nat × Nat) := trF n (prL n)
theorem trB_0 (n : Nat) (ps : List (Nat × Nat)) (x : Nat × Nat) : trB n ps x 0 = trF n ps := by simp [trB, rowT]
theorem trB_end (n : Nat) (ps : List (Nat × Nat)) (x : Nat × Nat) (k : Nat) (hk : k = n - (x.2 + 1)) : trB n ps x k = trF n (ps ++ [x]) := by
  subst hk; simp [trB, trF]
theorem trB_step (n : Nat) (ps : List (Nat × Nat)) (x : Nat × Nat) (k : Nat) : trB n ps x (k + 1) = trB n ps x k ++ [(x.1, x.2, x.2 + 1 + k)] := by
  unfold trB rowT
  rw [List.range_succ, List.map_append, List.append_assoc]
  rfl
theorem trF_pre {n : Nat} {ps qs : List (Nat × Nat)} (h : ps <+: qs) : trF n ps <+: trF n qs := by
  obtain ⟨t, rfl⟩ := h
  unfold trF
  rw [List.flatMap_append]
  exact List.prefix_append _ _
theorem trB_pre (n : Nat) (ps : List (Nat × Nat)) (x : Nat × Nat) (k : Nat) (h : ps ++ [x] <+: prL n) (hk : k ≤ n - (x.2 + 1)) : trB n ps x k <+: trL n := by
  refine List.IsPrefix.trans ?_ (trF_pre h)
  obtain ⟨d, hd⟩ : ∃ d, n - (x.2 + 1) = k + d := ⟨n - (x.2 + 1) - k, by omega⟩
  unfold trB trF rowT
  rw [List.flatMap_append, List.flatMap_cons, List.flatMap_nil, List.append_nil, hd, List.range_add, List.map_append, ← List.append_assoc]
  exact List.prefix_append _ _
theorem mem_trL {n : Nat} {t : Nat × Nat × Nat} : t ∈ trL n ↔ t.1 < t.2.1 ∧ t.2.1 < t.2.2 ∧ t.2.2 < n := by
  unfold trL trF rowT
  simp only [List.mem_flatMap, List.mem_map, List.mem_range, mem_prL]
  constructor
  · rintro ⟨p, hp, j, hj, rfl⟩
    dsimp only; omega
  · rintro ⟨h1, h2, h3⟩
    exact ⟨(t.1, t.2.1), ⟨h1, by dsimp only; omega⟩, t.2.2 - t.2.1 - 1, by dsimp only; omega, Prod.ext rfl (Prod.ext rfl (by dsimp only; omega))⟩
theorem lasts_up {B B' : Nat} {X : World → Prop} (h : Lasts B X) (hB : B ≤ B') : Lasts B' X := fun W W' row hi hg hr => h W W' row hi hg (fun r e => ⟨by have := (hr r e).1; omega, (hr r e).2⟩)
theorem mark1 {B D : Nat} {W : World} (hD : W.heap[D]? = some (.deferred (some []))) (hB : B ≤ D) : Marks B [{ target := .collected D, args := #[] }] W :=
  ⟨[D], rfl, by simp, fun E hE => by rw [List.mem_singleton] at hE; subst hE; exact ⟨hB, hD⟩⟩
set_option maxRecDepth 100000 in
set_option maxHeartbeats 1000000 in
/-- **the triples come one after the other** -/
theorem triples_seq (n bt B : Nat) (hn : n ≤ 1000) (hB : B ≤ bt) (w : World) (r : Row w bt 3 [.int .i64 (n : Int)]) : SeqL 89 #[.pointer (some ⟨bt, 0, none⟩)] encT B (trL n) w := fun l J Jx W hW hJ hJx hY h0 => by
  have hbw := r.lt
  have rW := r.below hW hbw
  have hsW := hW.size
  have HY := Lib.hid hY
  have HJJ := Lib.hid (And.intro hJ hJx)
  clear hY hJ hJx
  refine callsIn_of_wp_marks (F := Fence.wide) (n := 1) Try.func89 rfl trivial ?_ rfl
  simp only [Try.ntmps89, List.size_toArray, List.length_cons, List.length_nil, Nat.reduceAdd, Nat.reduceSub, Array.replicate_succ, Array.replicate_zero, List.push_toArray, List.append_toArray, List.nil_append, List.cons_append]
  obtain ⟨ba, ry⟩ := box_start W 116 [.func (.yield l) #[] #[]]
  have HC := Lib.hid (pairs_any (n : Int) (W.alloc (.cells [.func (.yield l) #[] #[]].toArray 116)))
  have rb := rW.below ba rW.lt
  have c0 := rb.cell 0
  simp only [List.getElem?_cons_zero] at c0
  have hs1 := size_al W (.cells [.func (.yield l) #[] #[]].toArray 116)
  have FX := Lib.hid (And.intro ba (And.intro ry (And.intro rb hs1)))
  have H0 := Lib.hid h0
  have HB := Lib.hid (And.intro hbw hsW)
  clear ba ry rb hs1 h0 rW r hW hbw hsW
  gi_wp2_with fail
  refine ⟨trivial, (callsIn_wide.2 HC.out).mono ?_⟩
  rintro e w2 ⟨rfl, hb, rp⟩
  obtain ⟨ba, ry, rb, hs1⟩ := FX.out
  have ry2 := ry.below hb ry.lt
  have rb2 := rb.below hb rb.lt
  have hl2 := hb.size
  have bw2 : Below W.heap.size W w2 := Below.andThen ba hb (by omega)
  have h02 := (HJJ.out.1 []).grow H0.out bw2
  have rpl := rp.lt
  rw [hs1] at rp rpl
  have SL := Lib.hid (pairs_seq n (W.heap.size + 1) B hn (by have := HB.out; omega) w2 rp)
  have KK := Lib.hid (And.intro ry2 (And.intro rb2 (And.intro bw2 h02)))
  rw [hs1]
  clear ba ry rb hs1 ry2 rb2 hl2 bw2 h02 rpl rp hb HC FX c0 H0
  gi_wp2_with fail
  refine range_list SL.out rfl (enters_of Try.func98 (by kernel_rfl) rfl)
    (fun pre V => Row V W.heap.size 116 [.func (.yield l) #[] #[]] ∧ Row V bt 3 [.int .i64 (n : Int)] ∧ J (trF n pre) V)
    (fun c _ V => c = .ret ∧ ∃ t, t <+: trL n ∧ Jx t V) ?hI ?hIx ?h0
    (fun x a' V => ∃ b, a' = { tmps := #[.func (.yield l) #[] #[], .pointer (some ⟨bt, 0, none⟩), .pointer (some ⟨W.heap.size, 0, none⟩), .pointer (some ⟨b, 0, none⟩), undef, .int .i64 (n : Int), .func (.func 98) #[] #[.pointer (some ⟨W.heap.size + 1, 0, none⟩)], encP x, undef, undef, undef, undef, undef, undef, undef, undef, undef, undef, undef, undef, undef, undef, undef, undef, undef], defers := [] } ∧ W.heap.size ≤ b ∧ Row V b 28 [.int .i64 (x.1 : Int), .int .i64 (x.2 : Int)])
    ?hR ?assign ?body ?done ?stop
  case hI => exact fun s => (lasts_row _ _ _ _).and ((lasts_row _ _ _ _).and (lasts_up (HJJ.out.1 _) KK.out.2.2.1.size))
  case hIx =>
    rintro c s V V' row ⟨hc, t, ht, hx⟩ hg hr
    exact ⟨hc, t, ht, lasts_up (HJJ.out.2 _) KK.out.2.2.1.size V V' row hx hg hr⟩
  case h0 => exact ⟨KK.out.1, KK.out.2.1, KK.out.2.2.2⟩
  case hR =>
    rintro x a' V V' row ⟨b, h1, h2, h3⟩ hg hr
    exact ⟨b, h1, h2, lasts_row _ _ _ _ V V' row h3 hg hr⟩
  case assign =>
    intro l2 x V K hs hK
    have hk := hK _ _ ⟨_, rfl, by have := KK.out.2.2.1.size; omega, Row.new V 28 [.int .i64 (x.1 : Int), .int .i64 (x.2 : Int)]⟩ ((Below.refl V.heap.size V).alloc (Nat.le_refl _) _)
    have HKk := Lib.hid hk
    clear hk hK
    dsimp only [encP]
    simp only [List.setIfInBounds_toArray, List.set_cons_succ, List.set_cons_zero]
    gi_wp2
    exact HKk.out
  case done =>
    rintro D V hD ⟨h1, h2, h3⟩ hK
    have h3' := Lib.hid h3
    have hK' := Lib.hid (mark1 hK (show W.heap.size ≤ D from Nat.le_trans KK.out.2.2.1.size hD))
    clear h1 h2 h3 hK
    gi_wp2_with fail
    refine leaves_marks (B := W.heap.size) (fun X => J (trL n) X) (HJJ.out.1 _) ?_ _ _ hK'.out h3'.out
    intro X hX
    exact ⟨_, results_none rfl _ _ _, ⟨_, rfl⟩, .inl hX⟩
  case stop =>
    rintro D c pre V hD hpre ⟨rfl, t, ht, hx⟩ hK
    have h3' := Lib.hid hx
    have hK' := Lib.hid (mark1 hK (show W.heap.size ≤ D from Nat.le_trans KK.out.2.2.1.size hD))
    clear hx hK
    gi_wp2_with fail
    refine leaves_marks (B := W.heap.size) (fun X => Jx t X) (HJJ.out.2 _) ?_ _ _ hK'.out h3'.out
    intro X hX
    exact ⟨_, results_none rfl _ _ _, ⟨_, rfl⟩, .inr ⟨t, ht, hX⟩⟩
  case body =>
    rintro l2 x pre a' V hpre hs ⟨h1, h2, h3⟩ ⟨b, rfl, hb, hr⟩
    have hx := mem_prL.1 (hpre.subset (by simp : x ∈ pre ++ [x]))
    obtain ⟨x1, x2⟩ := x
    dsimp only at hx hr
    have hs0 := KK.out.2.2.1.size
    have c0 := hr.cell 1
    simp only [List.getElem?_cons_zero, List.getElem?_cons_succ] at c0
    have cw : IntKind.i64.wrap ((x2 : Int) + 1) = ((x2 + 1 : Nat) : Int) := by rw [i64_of _ (by omega) (by omega)]; omega
    have hV := hr.lt
    have HR := Lib.hid (And.intro h1 (And.intro h2 (And.intro h3 hr)))
    have HZ := Lib.hid (And.intro hs (And.intro hb (And.intro hs0 HB.out)))
    clear h1 h2 h3 hr hs hb hs0 SL KK
    gi_wp2_with fail
    clear c0
    gi_loopw [4] (fun tv wx => ∃ k : Nat, x2 + 1 + k ≤ n ∧ tv = .int .i64 ((x2 + 1 + k : Nat) : Int) ∧ Hid (J (trB n pre (x1, x2) k) wx) ∧ Hid (KeepsFrom W.heap.size V wx ∧ KeepsI B V wx)) (fun tv _ => ((n : Int) - intOf tv).toNat)
    case atStart => exact ⟨0, by omega, rfl, Lib.hid (by rw [trB_0]; exact HR.out.2.2.1), Lib.hid ⟨KeepsFrom.refl _ _, KeepsI.refl _ _⟩⟩
    case round =>
      obtain ⟨k, hk, rfl, HJ, HW⟩ := hrel
      have z := HZ.out
      have ry := HW.out.2.row (b := W.heap.size) (by omega) rfl HR.out.1
      have rb := HW.out.2.row hB rfl HR.out.2.1
      have rp := HW.out.2.row (b := b) (by omega) rfl HR.out.2.2.2
      clear z
      have yc := ry.cell 0
      have nc := rb.cell 0
      have p0 := rp.cell 0
      have p1 := rp.cell 1
      simp only [List.getElem?_cons_zero, List.getElem?_cons_succ] at yc nc p0 p1
      clear ry rb rp cw
      generalize hj : x2 + 1 + k = j at *
      have hj2 := Lib.hid hj
      clear hj
      have jw : IntKind.i64.wrap ((j : Int) + 1) = ((j + 1 : Nat) : Int) := by rw [i64_of _ (by omega) (by omega)]; omega
      by_cases hlt2 : j < n
      · have hd2 : decide ((j : Int) < (n : Int)) = true := decide_eq_true (by omega)
        obtain ⟨fn, tmps, assign, body, hyy, hR⟩ := yield_any (m' := 0) (HY.out (trB n pre (x1, x2) k) (x1, x2, j) wr (by
          have h := trB_pre n pre (x1, x2) (k + 1) hpre (by have := hj2.out; dsimp only; omega)
          rw [trB_step] at h
          dsimp only at h
          rwa [hj2.out] at h) HJ.out)
        simp only [encT] at hyy
        have hR2 := hR.mono (R' := fun e W' => ∃ bb, e = .returned (.bool bb) ∧ Hid ((bb = true ∧ J (trB n pre (x1, x2) (k + 1)) W' ∧ KeepsI B wr W' ∧ KeepsFrom W.heap.size wr W') ∨ (bb = false ∧ Jx (trB n pre (x1, x2) (k + 1)) W' ∧ KeepsFrom W.heap.size wr W'))) (by
          have e1 : trB n pre (x1, x2) (k + 1) = trB n pre (x1, x2) k ++ [(x1, x2, j)] := by rw [trB_step, ← hj2.out]
          rw [e1]
          rintro e W' (⟨rfl, h⟩ | ⟨rfl, h⟩)
          · exact ⟨true, rfl, Lib.hid (.inl ⟨rfl, h⟩)⟩
          · exact ⟨false, rfl, Lib.hid (.inr ⟨rfl, h⟩)⟩)
        have HRR := Lib.hid (show RoundIn (Fence.wide.inRound l2) 0 Try.prog l fn tmps assign body wr _ from hR2)
        clear hR hR2 HJ
        gi_wp2_with fail
        refine RoundIn.mono (F := Fence.wide.inRound l2) (n := 0) HRR.out ?_
        rintro e W3 ⟨bb, rfl, hp⟩
        cases bb
        · have HX := Lib.hid (show Jx (trB n pre (x1, x2) (k + 1)) W3 ∧ KeepsFrom W.heap.size wr W3 by
            rcases hp.out with ⟨h, _⟩ | ⟨_, h⟩
            · cases h
            · exact h)
          clear hp hyy HRR
          gi_wp2_with fail
          exact ⟨kf_less (HW.out.1.trans HX.out.2) HZ.out.2.2.1, rfl, _, trB_pre n pre (x1, x2) (k + 1) hpre (by have := hj2.out; dsimp only; omega), HX.out.1⟩
        · have HX := Lib.hid (show J (trB n pre (x1, x2) (k + 1)) W3 ∧ KeepsI B wr W3 ∧ KeepsFrom W.heap.size wr W3 by
            rcases hp.out with ⟨_, h⟩ | ⟨h, _⟩
            · exact h
            · cases h)
          clear hp hyy HRR
          gi_wp2_with fail
          go_roundw
          case rel => exact ⟨k + 1, by have := hj2.out; omega, by have := hj2.out; subst this; rfl, Lib.hid HX.out.1, Lib.hid ⟨HW.out.1.trans HX.out.2.2, HW.out.2.trans HX.out.2.1⟩⟩
          case measure => simp [intOf]; omega
      · have hd2 : decide ((j : Int) < (n : Int)) = false := decide_eq_false (by omega)
        have HJ2 := Lib.hid (show J (trF n (pre ++ [(x1, x2)])) wr by
          have h := HJ.out
          rwa [trB_end n pre (x1, x2) k (by have := hj2.out; dsimp only; omega)] at h)
        clear HJ
        gi_wp2_with fail
        have z := HZ.out
        exact ⟨kf_less HW.out.1 z.2.2.1, HW.out.2, HW.out.2.row (b := W.heap.size) (by omega) rfl HR.out.1, HW.out.2.row hB rfl HR.out.2.1, HJ2.out⟩
end Go.Proofs.Ytlemipnplgbckaa
namespace Go.Proofs.Ytlemipnplgbckaa
open Go.RowKit Go.Shelf
attribute [local go_sem] Oper.semAt_some
section
variable {F : Fence} {n : Nat} {P : Program} {Q : Exit → Act → World → Prop}
/-- what an invariant gives of a region whose order is open -/
theorem wpAnyIn_inv {l : List Oper} (hd : waitsB l = true) (I : List Bool → Act → World → Prop)
    (hstep : ∀ (i : Nat) (o : Oper) (bs : List Bool) (a : Act) (w : World), l[i]? = some o → I bs a w → bs.length = l.length → bs[i]? = some false → (∀ e ∈ o.after, Region.binds .any e = true → bs.getD e.on false = true) →
      wpOpIn F n P l.toArray Q i (fun a' w' => I (bs.set i true) a' w') a w)
    (hend : ∀ a w, I (List.replicate l.length true) a w → Q .normal a w) : ∀ (fuel : Nat) (bs : List Bool) (a : Act) (w : World), bs.length = l.length → (bs.filter (! ·)).length ≤ fuel → I bs a w → wpAnyIn F n P .any l.toArray Q fuel bs.toArray a w := by
  intro fuel
  induction fuel with
  | zero =>
    intro bs a w hl hf hI
    have hall : bs = List.replicate l.length true := by
      rw [List.eq_replicate_iff]
      refine ⟨hl, fun b hb => ?_⟩
      cases b with
      | true => rfl
      | false =>
        have : false ∈ bs.filter (! ·) := List.mem_filter.2 ⟨hb, rfl⟩
        have := List.length_pos_of_mem this; omega
    subst hall
    refine ⟨?_, hend a w hI⟩
    cases hr : Region.ready .any l.toArray (List.replicate l.length true).toArray with
    | nil => rfl
    | cons j js =>
      have hj : j ∈ Region.ready .any l.toArray (List.replicate l.length true).toArray := by rw [hr]; exact List.mem_cons_self
      obtain ⟨h1, o, h2, _⟩ := mem_ready.1 hj
      have hlt : j < l.length := by have := (List.getElem?_eq_some_iff.1 (by simpa using h2 : l[j]? = some o)).1; exact this
      simp [Array.getD, hlt] at h1
  | succ fuel ih =>
    intro bs a w hl hf hI
    have hset : ∀ (i : Nat), (bs.toArray.setIfInBounds i true) = (bs.set i true).toArray := fun i => by simp
    by_cases hall : bs = List.replicate l.length true
    · subst hall
      refine ⟨fun _ => hend a w hI, fun j hj => ?_⟩
      obtain ⟨h1, o, h2, _⟩ := mem_ready.1 hj
      have hlt : j < l.length := by have := (List.getElem?_eq_some_iff.1 (by simpa using h2 : l[j]? = some o)).1; exact this
      simp [Array.getD, hlt] at h1
    · refine ⟨fun hr => ?_, fun j hj => ?_⟩
      · exfalso
        have hex : ∃ b ∈ bs, (!b) = true := by
          false_or_by_contra
          rename_i hno
          refine hall (List.eq_replicate_iff.2 ⟨hl, fun b hb => ?_⟩)
          cases b with
          | true => rfl
          | false => exact absurd ⟨false, hb, rfl⟩ hno
        have hlt : bs.findIdx (! ·) < bs.length := List.findIdx_lt_length.2 hex
        have hf0 : bs[bs.findIdx (! ·)] = false := by have := List.findIdx_getElem (w := hlt); simpa using this
        have hlt2 : bs.findIdx (! ·) < l.length := by omega
        have hmem : bs.findIdx (! ·) ∈ Region.ready .any l.toArray bs.toArray := by
          refine mem_ready.2 ⟨by simp [Array.getD, hlt, hf0], l[bs.findIdx (! ·)], by simp [hlt2], fun e he _ => ?_⟩
          unfold waitsB at hd
          rw [List.all_eq_true] at hd
          have h1 := hd _ (List.mem_range.2 hlt2)
          rw [List.getElem?_eq_getElem hlt2] at h1
          simp only [Option.map_some, Option.getD_some] at h1
          have h2 := (Array.all_eq_true'.1 h1) e he
          have h3 := of_decide_eq_true h2
          have h4 : e.on < bs.length := by omega
          have h5 := List.not_of_lt_findIdx h3
          simp [Array.getD, h4]
          simpa using h5
        rw [hr] at hmem; cases hmem
      · obtain ⟨h1, o, h2, h3⟩ := mem_ready.1 hj
        have h2' : l[j]? = some o := by simpa using h2
        have hlt : j < l.length := (List.getElem?_eq_some_iff.1 h2').1
        have hb : bs[j]? = some false := by
          rw [List.getElem?_eq_getElem (by omega)]
          simp [Array.getD, show j < bs.length by omega] at h1
          rw [h1]
        refine wpOpIn_mono (fun a' w' h => ?_) (hstep j o bs a w h2' hI hl hb (fun e he hb => by have := h3 e he hb; rw [List.getD_eq_getElem?_getD]; simp only [Array.getD, List.size_toArray] at this; split at this <;> simp_all))
        rw [hset]
        have := filter_set bs j hb
        exact ih _ _ _ (by simpa using hl) (by omega) h
/-- each operation of a region puts a value of its kind -/
def relStepsIn (F : Fence) (n : Nat) (P : Program) (Q : Exit → Act → World → Prop) (ops : Array Oper) (a : Act) (slots : List Nat) (R : List (Value → World → Prop)) (w₀ : World) (len : Nat) : List Oper → Nat → Prop
  | [], _ => True
  | o :: rest, i => (∀ (vs : List Value) (w : World) (K : Act → World → Prop), Below w₀.heap.size w₀ w → vs.length = len → (∀ e ∈ o.after, Region.binds .any e = true → ∃ v, vs[e.on]? = some v ∧ (R.getD e.on (fun _ _ => True)) v w) →
      (∀ v' w', Below w.heap.size w w' → (R.getD i (fun _ _ => True)) v' w' → K (putAll a slots (vs.set i v')) w') → wpListIn F n P ops (Exit.then K Q) [o] (putAll a slots vs) w) ∧ relStepsIn F n P Q ops a slots R w₀ len rest (i + 1)
theorem relStepsIn_get {ops : Array Oper} {a : Act} {slots : List Nat} {R : List (Value → World → Prop)} {w₀ : World} {len : Nat} : ∀ {l : List Oper} {k i : Nat} {o : Oper}, relStepsIn F n P Q ops a slots R w₀ len l k → l[i]? = some o →
    ∀ (vs : List Value) (w : World) (K : Act → World → Prop), Below w₀.heap.size w₀ w → vs.length = len → (∀ e ∈ o.after, Region.binds .any e = true → ∃ v, vs[e.on]? = some v ∧ (R.getD e.on (fun _ _ => True)) v w) →
      (∀ v' w', Below w.heap.size w w' → (R.getD (k + i) (fun _ _ => True)) v' w' → K (putAll a slots (vs.set (k + i) v')) w') → wpListIn F n P ops (Exit.then K Q) [o] (putAll a slots vs) w
  | [], _, _, _, _, h => by simp at h
  | o :: rest, k, 0, o', hd, h => by
    simp at h; subst h
    exact hd.1
  | o :: rest, k, i + 1, o', hd, h => by
    have := relStepsIn_get (l := rest) (k := k + 1) (i := i) hd.2 (by simpa using h)
    rw [show k + 1 + i = k + (i + 1) by omega] at this
    exact this
/-- **a region whose first m operations put values of their kinds in any order, and the rest comes behind them, one after the other** -/
theorem wpIn_region_relcut {id : Nat} {a : Act} {w : World} {l : List Oper} (m : Nat) (hpm : P.follows .mixedOrders = true)
    (hck : (decide (m < l.length) && (noGuardB l && (waitsB l && (feedsB l m && (chainB l m && waitsB (l.take m)))))) = true) (slots : List Nat) (R : List (Value → World → Prop))
    (hstab : ∀ r ∈ R, ∀ (v : Value) (W W' : World), r v W → Below W.heap.size W W' → r v W')
    (h0 : ∃ vs, a = putAll a slots vs ∧ vs.length = m)
    (hsteps : ∀ Q', relStepsIn F n P Q' (l.take m).toArray a slots R w m (l.take m) 0)
    (hend : ∀ vs W, Below w.heap.size w W → vs.length = m → (∀ i, i < m → ∃ v, vs[i]? = some v ∧ (R.getD i (fun _ _ => True)) v W) → wpListIn F n P l.toArray Q (l.drop m) (putAll a slots vs) W) : (Code.region id l.toArray true).wpIn F n P Q a w := by
  simp only [Bool.and_eq_true, decide_eq_true_eq] at hck
  obtain ⟨hm, hg, hd, hf, hc, hd2⟩ := hck
  obtain ⟨vs0, e0, el0⟩ := h0
  have hlen : (l.take m).length = m := by rw [List.length_take]; omega
  have hst : ∀ i v W W', (R.getD i (fun _ _ => True)) v W → Below W.heap.size W W' → (R.getD i (fun _ _ => True)) v W' := fun i v W W' h hb => by
    by_cases hi : i < R.length
    · rw [List.getD_eq_getElem?_getD, List.getElem?_eq_getElem hi] at h ⊢
      exact hstab _ (List.getElem_mem hi) v W W' h hb
    · rw [List.getD_eq_getElem?_getD, List.getElem?_eq_none (by omega)] at h ⊢
      exact trivial
  refine wpIn_region_any hpm ?_
  have h2 := wpAnyIn_inv (F := F) (n := n) (P := P) (Q := Exit.then (wpOpsIn F n P l.toArray Q (List.range' m (l.length - m))) Q) hd2
    (fun bs a' W => ∃ vs, a' = putAll a slots vs ∧ Below w.heap.size w W ∧ vs.length = m ∧ ∀ i : Nat, bs[i]? = some true → ∃ v, vs[i]? = some v ∧ (R.getD i (fun _ _ => True)) v W) ?_ ?_ m (List.replicate m false) a w.drew (by simp [hlen]) (by simp) ⟨vs0, e0, (Below.refl _ _).drew, el0, fun i hi => ?_⟩
  · have h3 := wpAnyIn_cut m hm hg hd hf hc m (List.replicate m false) a w.drew (by simp) (by simp) (fun i o _ hi => by
      exfalso
      rw [List.getD_eq_getElem?_getD] at hi
      by_cases h : i < m <;> simp [h] at hi) h2
    have e3 : m + (l.length - m) = l.length := by omega
    have e4 : (List.replicate m false ++ List.replicate (l.length - m) false) = List.replicate l.length false := by rw [List.replicate_append_replicate, e3]
    rw [e3, e4] at h3
    simpa using h3
  · rintro i o bs a' W ho ⟨vs, rfl, hcb, hl, hv⟩ hbl hb hw
    refine wpOpIn_of_list (by simpa using ho) ?_
    refine relStepsIn_get (hsteps _) ho vs W _ hcb hl (fun e he hbe => ?_) (fun v' w' hbb hr => ⟨_, rfl, Below.andThen hcb hbb (Nat.le_refl _), by rw [List.length_set]; exact hl, fun j hj => ?_⟩)
    · have h := hw e he hbe
      rw [List.getD_eq_getElem?_getD] at h
      refine hv _ ?_
      cases h2 : bs[e.on]? with
      | none => rw [h2] at h; simp at h
      | some b => rw [h2] at h; simp at h; rw [h]
    · by_cases hij : i = j
      · subst hij
        have hlt : i < (l.take m).length := (List.getElem?_eq_some_iff.1 ho).1
        refine ⟨v', ?_, by simpa using hr⟩
        rw [Nat.zero_add, List.getElem?_set_self (by omega)]
      · rw [List.getElem?_set_ne hij] at hj
        obtain ⟨v, h1, h2⟩ := hv j hj
        exact ⟨v, by rw [Nat.zero_add, List.getElem?_set_ne hij]; exact h1, hst _ _ _ _ h2 hbb⟩
  · rintro a' W ⟨vs, rfl, hcb, hl, hv⟩
    show wpOpsIn F n P l.toArray Q (List.range' m (l.length - m)) (putAll a slots vs) W
    have e := wpOpsIn_eq_wpListIn (F := F) (n := n) (P := P) (Q := Q) (ops := l.toArray) (l.drop m) m (fun j => by simp)
    rw [List.length_drop] at e
    rw [e]
    exact hend vs W hcb hl (fun i hi => hv i (by rw [List.getElem?_replicate, if_pos (by omega)]))
  · rw [List.getElem?_replicate] at hi
    split at hi <;> simp at hi
end
end Go.Proofs.Ytlemipnplgbckaa
