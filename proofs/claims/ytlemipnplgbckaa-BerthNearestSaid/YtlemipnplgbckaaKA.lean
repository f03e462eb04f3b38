import Derived.Test.YtlemipnplgbckaaMI
import Derived.Test.YtlemipnplgbckaaEA
import Derived.Laws.AppendOwn
import Derived.ChangeKeysEq
import Derived.Maps.RangeWalk
import Derived.Maps.OwnIn
import Derived.Maps.AppendAt
import Derived.RangeFuncNested
import Derived.RangeFuncBound
import Derived.RangeFuncCalls
import Derived.RangeFuncLeaves
import Derived.Shelf.Abstract
import Derived.Shelf.RegionOpen
import Derived.WalkKit
import Derived.WalkMore
import Derived.OwnWalkIn
import Derived.TacticsInMore
import Derived.LoopNIn
import Derived.LoopIn
import Derived.WalkSpells
import Derived.WalkLawsBesides
import Derived.BigQuiet
import Derived.Deep.QuietTactic
import Derived.Lib.Hide
import Derived.Deep.RegionHeld3
import Derived.StillTailTactics
import Derived.Deep.LoopGhost
import Derived.Maps.OwnSet
import Derived.Lib.IndexAny
import Derived.Sort.QuietThIn
import Derived.Sort.QuietTacIn
import Derived.Sort.BigQuietIn
import Derived.Laws.OwnMore
import Derived.DeepKeys4
import Derived.Maps.Views
import Derived.Maps.OwnOps
import Derived.Deep.DeepCutAuto
import Derived.Shelf.Bits.Mul64
import Derived.Shelf.LaysM
namespace Go.Proofs.Ytlemipnplgbckaa
open Go.RowKit Go.Shelf
attribute [local go_sem] Oper.semAt_some
/-- the square of the distance of two of the points, told by their numbers -/
def pdF (ps : List Pt) (t : Nat × Nat) : Int := fd (ptAt ps t.2) (ptAt ps t.1)
set_option maxRecDepth 100000 in
set_option maxHeartbeats 1000000 in
theorem pd_any (ps : List Pt) (v : Value) (b t0 t1 : Nat) (w : World) (hb : Row w b 22 [v]) (hv : SlP w v ps) (h0 : t0 < ps.length) (h1 : t1 < ps.length) (hps : ∀ p ∈ ps, Bd 20 p.1 ∧ Bd 20 p.2) :
    Calls Try.prog 68 #[.agg #[.int .i64 (t0 : Int), .int .i64 (t1 : Int)], .pointer (some ⟨b, 0, none⟩)] w fun e w' => e = .returned (.int .i64 (pdF ps (t0, t1))) ∧ Below w.heap.size w w' := by
  obtain ⟨bx, rx⟩ := box_start w 28 [.int .i64 (t0 : Int), .int .i64 (t1 : Int)]
  obtain ⟨n, hn⟩ : ∃ n, ps.length = n := ⟨_, rfl⟩
  obtain ⟨a, c, rfl, hc, hs⟩ := hv
  rw [hn] at h0 h1 hc hb
  obtain ⟨g, o, rfl, hpt⟩ : ∃ g o, a = some ⟨g, o, none⟩ ∧ PtsAt w g o ps := hs.resolve_left (fun e => by rw [e] at hn; simp at hn; omega)
  have q0 := pt_bd hps hn h0
  have q1 := pt_bd hps hn h1
  have HX0 := Lib.hid (fun W (hb : Below w.heap.size w W) => pt_cell hpt hb hn h0)
  have HX1 := Lib.hid (fun W (hb : Below w.heap.size w W) => pt_cell hpt hb hn h1)
  have HI0 := Lib.hid (show (t0 : Int) < (n : Int) by omega)
  have HI1 := Lib.hid (show (t1 : Int) < (n : Int) by omega)
  have HPD := Lib.hid (show pdF ps (t0, t1) = fd (ptAt ps t1) (ptAt ps t0) from rfl)
  have RB := Lib.hid (hb.below bx hb.lt)
  have RX := Lib.hid rx
  have BX := Lib.hid bx
  clear hs hpt hn hb bx rx h0 h1
  rw [HPD.out]
  generalize ptAt ps t0 = p0 at *
  generalize ptAt ps t1 = p1 at *
  obtain ⟨a0, b0⟩ := p0
  obtain ⟨a1, b1⟩ := p1
  dsimp only at HX0 HX1 q0 q1
  have HD := Lib.hid (fun W : World => dist_any a0 b0 a1 b1 W q0.1 q0.2 q1.1 q1.2)
  generalize fd (a1, b1) (a0, b0) = FV at *
  obtain ⟨V, hV⟩ : ∃ V, V = w.alloc (.cells [.int .i64 (t0 : Int), .int .i64 (t1 : Int)].toArray 28) := ⟨_, rfl⟩
  rw [← hV] at RB RX BX
  clear q0 q1 HPD
  go_enter Try.func68, Try.ntmps68
  go_wp2_with fail
  rw [← hV]
  clear hV
  refine wp_region_box (by kernel_rfl) (by kernel_rfl) [4, 5, 6, 7, 8, 9, 10, 11, 12, 13, 14, 3] [(fun v => v = .slice (some ⟨g, o, none⟩) n c), (fun v => v = .pointer (some ⟨w.heap.size, 0, none⟩)), (fun v => v = .int .i64 (t0 : Int)), (fun v => v = .pointer (some ⟨g, o + t0 * 2, none⟩)), (fun v => v = .agg #[.int .i64 a0, .int .i64 b0]), (fun v => v = .slice (some ⟨g, o, none⟩) n c), (fun v => v = .pointer (some ⟨w.heap.size, 1, none⟩)), (fun v => v = .int .i64 (t1 : Int)), (fun v => v = .pointer (some ⟨g, o + t1 * 2, none⟩)), (fun v => v = .agg #[.int .i64 a1, .int .i64 b1]), (fun v => v = .int .i64 FV), (fun v => v = .int .i64 FV)] [none, none, none, none, none, none, none, none, none, none, none, none] [none, none, none, none, none, none, none, none, none, none, none, none] 12 rfl (by kernel_rfl) ?tr ⟨_, (putAll_self _ _).symm, rfl⟩ ?steps ?fin
  case tr =>
    rintro i v h
    rcases i with _ | _ | _ | _ | _ | _ | _ | _ | _ | _ | _ | _ | i
    all_goals first | trivial | (exfalso; rcases h with h | h <;> simp at h)
  case steps =>
    simp only [boxSteps, Nat.reduceAdd, Nat.zero_add, List.getD_cons_succ, List.getD_cons_zero]
    refine ⟨?_, ?_, ?_, ?_, ?_, ?_, ?_, ?_, ?_, ?_, ?_, ?_, trivial⟩
    · rintro vs W K hc hvl hw hK
      obtain ⟨x0, x1, x2, x3, x4, x5, x6, x7, x8, x9, x10, x11, rfl⟩ := len12 hvl
      have HK := Lib.hid hK
      have HC := Lib.hid hc
      have HW := Lib.hid hw
      clear hK hc hw hvl
      simp only [putAll, Act.put, List.setIfInBounds_toArray, List.set_cons_succ, List.set_cons_zero]
      have rr := RB.out.below HC.out RB.out.lt
      have d0 := rr.cell 0
      simp only [List.getElem?_cons_zero] at d0
      clear rr
      clear HW
      go_wp2_with fail
      have fin := HK.out (.slice (some ⟨g, o, none⟩) n c) W (Below.refl _ _) rfl
      simp only [putAll, Act.put, List.setIfInBounds_toArray, List.set_cons_succ, List.set_cons_zero] at fin
      exact fin
    · rintro vs W K hc hvl hw hK
      obtain ⟨x0, x1, x2, x3, x4, x5, x6, x7, x8, x9, x10, x11, rfl⟩ := len12 hvl
      have HK := Lib.hid hK
      have HC := Lib.hid hc
      have HW := Lib.hid hw
      clear hK hc hw hvl
      simp only [putAll, Act.put, List.setIfInBounds_toArray, List.set_cons_succ, List.set_cons_zero]
      clear HW
      go_wp2_with fail
      have fin := HK.out (.pointer (some ⟨w.heap.size, 0, none⟩)) W (Below.refl _ _) rfl
      simp only [putAll, Act.put, List.setIfInBounds_toArray, List.set_cons_succ, List.set_cons_zero] at fin
      exact fin
    · rintro vs W K hc hvl hw hK
      obtain ⟨x0, x1, x2, x3, x4, x5, x6, x7, x8, x9, x10, x11, rfl⟩ := len12 hvl
      have HK := Lib.hid hK
      have HC := Lib.hid hc
      have HW := Lib.hid hw
      clear hK hc hw hvl
      obtain rfl : x1 = .pointer (some ⟨w.heap.size, 0, none⟩) := box_get (HW.out ⟨1, .data⟩ (by simp) rfl) rfl
      simp only [putAll, Act.put, List.setIfInBounds_toArray, List.set_cons_succ, List.set_cons_zero]
      have rr := RX.out.below HC.out RX.out.lt
      have d0 := rr.cell 0
      have d1 := rr.cell 1
      simp only [List.getElem?_cons_zero, List.getElem?_cons_succ] at d0 d1
      clear rr
      clear HW
      go_wp2_with fail
      have fin := HK.out (.int .i64 (t0 : Int)) W (Below.refl _ _) rfl
      simp only [putAll, Act.put, List.setIfInBounds_toArray, List.set_cons_succ, List.set_cons_zero] at fin
      exact fin
    · rintro vs W K hc hvl hw hK
      obtain ⟨x0, x1, x2, x3, x4, x5, x6, x7, x8, x9, x10, x11, rfl⟩ := len12 hvl
      have HK := Lib.hid hK
      have HC := Lib.hid hc
      have HW := Lib.hid hw
      clear hK hc hw hvl
      obtain rfl : x0 = .slice (some ⟨g, o, none⟩) n c := box_get (HW.out ⟨0, .data⟩ (by simp) rfl) rfl
      obtain rfl : x2 = .int .i64 (t0 : Int) := box_get (HW.out ⟨2, .data⟩ (by simp) rfl) rfl
      simp only [putAll, Act.put, List.setIfInBounds_toArray, List.set_cons_succ, List.set_cons_zero]
      have hi := HI0.out
      clear HW
      go_wp2_with fail
      have fin := HK.out (.pointer (some ⟨g, o + t0 * 2, none⟩)) W (Below.refl _ _) rfl
      simp only [putAll, Act.put, List.setIfInBounds_toArray, List.set_cons_succ, List.set_cons_zero] at fin
      exact fin
    · rintro vs W K hc hvl hw hK
      obtain ⟨x0, x1, x2, x3, x4, x5, x6, x7, x8, x9, x10, x11, rfl⟩ := len12 hvl
      have HK := Lib.hid hK
      have HC := Lib.hid hc
      have HW := Lib.hid hw
      clear hK hc hw hvl
      obtain rfl : x3 = .pointer (some ⟨g, o + t0 * 2, none⟩) := box_get (HW.out ⟨3, .data⟩ (by simp) rfl) rfl
      simp only [putAll, Act.put, List.setIfInBounds_toArray, List.set_cons_succ, List.set_cons_zero]
      have d0 := (HX0.out W (Below.andThen BX.out HC.out (Nat.le_refl _))).1
      have d1 := (HX0.out W (Below.andThen BX.out HC.out (Nat.le_refl _))).2
      clear HW
      go_wp2_with fail
      have fin := HK.out (.agg #[.int .i64 a0, .int .i64 b0]) W (Below.refl _ _) rfl
      simp only [putAll, Act.put, List.setIfInBounds_toArray, List.set_cons_succ, List.set_cons_zero] at fin
      exact fin
    · rintro vs W K hc hvl hw hK
      obtain ⟨x0, x1, x2, x3, x4, x5, x6, x7, x8, x9, x10, x11, rfl⟩ := len12 hvl
      have HK := Lib.hid hK
      have HC := Lib.hid hc
      have HW := Lib.hid hw
      clear hK hc hw hvl
      simp only [putAll, Act.put, List.setIfInBounds_toArray, List.set_cons_succ, List.set_cons_zero]
      have rr := RB.out.below HC.out RB.out.lt
      have d0 := rr.cell 0
      simp only [List.getElem?_cons_zero] at d0
      clear rr
      clear HW
      go_wp2_with fail
      have fin := HK.out (.slice (some ⟨g, o, none⟩) n c) W (Below.refl _ _) rfl
      simp only [putAll, Act.put, List.setIfInBounds_toArray, List.set_cons_succ, List.set_cons_zero] at fin
      exact fin
    · rintro vs W K hc hvl hw hK
      obtain ⟨x0, x1, x2, x3, x4, x5, x6, x7, x8, x9, x10, x11, rfl⟩ := len12 hvl
      have HK := Lib.hid hK
      have HC := Lib.hid hc
      have HW := Lib.hid hw
      clear hK hc hw hvl
      simp only [putAll, Act.put, List.setIfInBounds_toArray, List.set_cons_succ, List.set_cons_zero]
      clear HW
      go_wp2_with fail
      have fin := HK.out (.pointer (some ⟨w.heap.size, 1, none⟩)) W (Below.refl _ _) rfl
      simp only [putAll, Act.put, List.setIfInBounds_toArray, List.set_cons_succ, List.set_cons_zero] at fin
      exact fin
    · rintro vs W K hc hvl hw hK
      obtain ⟨x0, x1, x2, x3, x4, x5, x6, x7, x8, x9, x10, x11, rfl⟩ := len12 hvl
      have HK := Lib.hid hK
      have HC := Lib.hid hc
      have HW := Lib.hid hw
      clear hK hc hw hvl
      obtain rfl : x6 = .pointer (some ⟨w.heap.size, 1, none⟩) := box_get (HW.out ⟨6, .data⟩ (by simp) rfl) rfl
      simp only [putAll, Act.put, List.setIfInBounds_toArray, List.set_cons_succ, List.set_cons_zero]
      have rr := RX.out.below HC.out RX.out.lt
      have d0 := rr.cell 0
      have d1 := rr.cell 1
      simp only [List.getElem?_cons_zero, List.getElem?_cons_succ] at d0 d1
      clear rr
      clear HW
      go_wp2_with fail
      have fin := HK.out (.int .i64 (t1 : Int)) W (Below.refl _ _) rfl
      simp only [putAll, Act.put, List.setIfInBounds_toArray, List.set_cons_succ, List.set_cons_zero] at fin
      exact fin
    · rintro vs W K hc hvl hw hK
      obtain ⟨x0, x1, x2, x3, x4, x5, x6, x7, x8, x9, x10, x11, rfl⟩ := len12 hvl
      have HK := Lib.hid hK
      have HC := Lib.hid hc
      have HW := Lib.hid hw
      clear hK hc hw hvl
      obtain rfl : x5 = .slice (some ⟨g, o, none⟩) n c := box_get (HW.out ⟨5, .data⟩ (by simp) rfl) rfl
      obtain rfl : x7 = .int .i64 (t1 : Int) := box_get (HW.out ⟨7, .data⟩ (by simp) rfl) rfl
      simp only [putAll, Act.put, List.setIfInBounds_toArray, List.set_cons_succ, List.set_cons_zero]
      have hi := HI1.out
      clear HW
      go_wp2_with fail
      have fin := HK.out (.pointer (some ⟨g, o + t1 * 2, none⟩)) W (Below.refl _ _) rfl
      simp only [putAll, Act.put, List.setIfInBounds_toArray, List.set_cons_succ, List.set_cons_zero] at fin
      exact fin
    · rintro vs W K hc hvl hw hK
      obtain ⟨x0, x1, x2, x3, x4, x5, x6, x7, x8, x9, x10, x11, rfl⟩ := len12 hvl
      have HK := Lib.hid hK
      have HC := Lib.hid hc
      have HW := Lib.hid hw
      clear hK hc hw hvl
      obtain rfl : x8 = .pointer (some ⟨g, o + t1 * 2, none⟩) := box_get (HW.out ⟨8, .data⟩ (by simp) rfl) rfl
      simp only [putAll, Act.put, List.setIfInBounds_toArray, List.set_cons_succ, List.set_cons_zero]
      have d0 := (HX1.out W (Below.andThen BX.out HC.out (Nat.le_refl _))).1
      have d1 := (HX1.out W (Below.andThen BX.out HC.out (Nat.le_refl _))).2
      clear HW
      go_wp2_with fail
      have fin := HK.out (.agg #[.int .i64 a1, .int .i64 b1]) W (Below.refl _ _) rfl
      simp only [putAll, Act.put, List.setIfInBounds_toArray, List.set_cons_succ, List.set_cons_zero] at fin
      exact fin
    · rintro vs W K hc hvl hw hK
      obtain ⟨x0, x1, x2, x3, x4, x5, x6, x7, x8, x9, x10, x11, rfl⟩ := len12 hvl
      have HK := Lib.hid hK
      have HC := Lib.hid hc
      have HW := Lib.hid hw
      clear hK hc hw hvl
      obtain rfl : x4 = .agg #[.int .i64 a0, .int .i64 b0] := box_get (HW.out ⟨4, .data⟩ (by simp) rfl) rfl
      obtain rfl : x9 = .agg #[.int .i64 a1, .int .i64 b1] := box_get (HW.out ⟨9, .data⟩ (by simp) rfl) rfl
      simp only [putAll, Act.put, List.setIfInBounds_toArray, List.set_cons_succ, List.set_cons_zero]
      clear HW
      go_wp2_with fail
      refine (HD.out W).mono ?_
      rintro e W' ⟨rfl, hb'⟩
      have HB' := Lib.hid hb'
      clear hb'
      go_wp2_with fail
      have fin := HK.out (.int .i64 FV) W' HB'.out rfl
      simp only [putAll, Act.put, List.setIfInBounds_toArray, List.set_cons_succ, List.set_cons_zero] at fin
      exact fin
    · rintro vs W K hc hvl hw hK
      obtain ⟨x0, x1, x2, x3, x4, x5, x6, x7, x8, x9, x10, x11, rfl⟩ := len12 hvl
      have HK := Lib.hid hK
      have HC := Lib.hid hc
      have HW := Lib.hid hw
      clear hK hc hw hvl
      obtain rfl : x10 = .int .i64 FV := box_get (HW.out ⟨10, .data⟩ (by simp) rfl) rfl
      simp only [putAll, Act.put, List.setIfInBounds_toArray, List.set_cons_succ, List.set_cons_zero]
      clear HW
      go_wp2_with fail
      have fin := HK.out (.int .i64 FV) W (Below.refl _ _) rfl
      simp only [putAll, Act.put, List.setIfInBounds_toArray, List.set_cons_succ, List.set_cons_zero] at fin
      exact fin
  case fin =>
    rintro vs W hJ
    obtain ⟨x0, x1, x2, x3, x4, x5, x6, x7, x8, x9, x10, x11, rfl⟩ := len12 hJ.ln
    obtain rfl : x11 = .int .i64 FV := box_get (hJ.val 11 rfl) rfl
    have HC := Lib.hid hJ.bl
    clear hJ
    simp only [putAll, Act.put, List.setIfInBounds_toArray, List.set_cons_succ, List.set_cons_zero]
    go_wp2_with fail
    go_ret
    exact ⟨rfl, (Below.andThen BX.out HC.out (Nat.le_refl _))⟩
set_option maxRecDepth 100000 in
set_option maxHeartbeats 400000 in
theorem Pairs_few (ps : List Pt) (v : Value) (w : World) (hv : SlP w v ps) (he : chkP ps = true) (h2 : ps.length < 2) :
    Calls Try.prog 26 #[v] w fun e w' => e = .returned (.tuple #[.agg #[.int .i64 0, .int .i64 0], .agg #[.int .i64 0, .int .i64 0], .int .i64 1]) ∧ Below w.heap.size w w' := by
  obtain ⟨V, hV, r1, r2, r3, bV⟩ := pr_start w v
  have HC := Lib.hid (Check_any ps v V (hv.grow bV) (by omega))
  rw [errP_ok he] at HC
  have hd : decide ((ps.length : Int) < 2) = true := decide_eq_true (by omega)
  have hdn : decide (ps.length < 2) = true := decide_eq_true h2
  obtain ⟨a, c, rfl, _⟩ := hv
  generalize ps.length = n at *
  have BV := Lib.hid bV
  have R2 := Lib.hid r2
  have R3 := Lib.hid r3
  have R1 := Lib.hid r1
  have k0 := r1.cell 0
  simp only [List.getElem?_cons_zero] at k0
  clear r1 r2 r3 bV he h2
  refine callsIn_wide.1 (callsIn_of_wp_marks (F := Fence.wide) (n := 4) Try.func26 rfl trivial ?_ rfl)
  simp only [Try.ntmps26, List.size_toArray, List.length_cons, List.length_nil, Nat.reduceAdd, Nat.reduceSub, Array.replicate_succ, Array.replicate_zero, List.push_toArray, List.append_toArray, List.nil_append, List.cons_append]
  gi_wp2_with fail
  rw [← hV]
  refine ⟨trivial, (callsIn_wide.2 HC.out).mono ?_⟩
  rintro e w1 ⟨rfl, hb⟩
  have BB := Lib.hid (Below.andThen BV.out hb (Nat.le_refl _))
  have R21 := Lib.hid (R2.out.below hb R2.out.lt)
  have R31 := Lib.hid (R3.out.below hb R3.out.lt)
  have R11 := Lib.hid (R1.out.below hb R1.out.lt)
  clear hb HC k0 hV BV R2 R3 R1
  have k0 := R11.out.cell 0
  simp only [List.getElem?_cons_zero] at k0
  have q2 := R21.out
  have q3 := R31.out
  have s0 := q2.cell 0
  have s1 := q2.cell 1
  have t0 := q3.cell 0
  have t1 := q3.cell 1
  have f0 := frozen_of_row _ (w.heap.size + 1) 0 _ _ q2
  have f1 := frozen_of_row _ (w.heap.size + 1) 1 _ _ q2
  have g0 := frozen_of_row _ (w.heap.size + 1 + 1) 0 _ _ q3
  have g1 := frozen_of_row _ (w.heap.size + 1 + 1) 1 _ _ q3
  simp only [List.getElem?_cons_zero, List.getElem?_cons_succ] at s0 s1 t0 t1
  clear q2 q3
  gi_wp2_with fail
  have hw : Below w.heap.size w ((((w1.setCell ⟨w.heap.size + 1, 0, none⟩ (.int .i64 0)).setCell ⟨w.heap.size + 1, 1, none⟩ (.int .i64 0)).setCell ⟨w.heap.size + 1 + 1, 0, none⟩ (.int .i64 0)).setCell ⟨w.heap.size + 1 + 1, 1, none⟩ (.int .i64 0)) :=
    (((BB.out.setCell (p := ⟨w.heap.size + 1, 0, none⟩) (by dsimp only; omega) _).setCell (p := ⟨w.heap.size + 1, 1, none⟩) (by dsimp only; omega) _).setCell (p := ⟨w.heap.size + 1 + 1, 0, none⟩) (by dsimp only; omega) _).setCell (p := ⟨w.heap.size + 1 + 1, 1, none⟩) (by dsimp only; omega) _
  have hr2 := ((((R21.out.set 0 (.int .i64 0)).set 1 (.int .i64 0)).other 0 (.int .i64 0) (show w.heap.size + 1 ≠ w.heap.size + 1 + 1 by omega)).other 1 (.int .i64 0) (show w.heap.size + 1 ≠ w.heap.size + 1 + 1 by omega))
  have hr3 := ((((R31.out.other 0 (.int .i64 0) (show w.heap.size + 1 + 1 ≠ w.heap.size + 1 by omega)).other 1 (.int .i64 0) (show w.heap.size + 1 + 1 ≠ w.heap.size + 1 by omega)).set 0 (.int .i64 0)).set 1 (.int .i64 0))
  simp only [List.set_cons_zero, List.set_cons_succ] at hr2 hr3
  refine leaves_marks (B := w.heap.size) (fun X => Below w.heap.size w X ∧ (Row X (w.heap.size + 1) 28 [.int .i64 0, .int .i64 0] ∧ Row X (w.heap.size + 1 + 1) 28 [.int .i64 0, .int .i64 0])) ((lasts_below _ _ _ (Nat.le_refl _) (Nat.le_refl _)).and ((lasts_row _ _ _ _).and (lasts_row _ _ _ _))) ?_ [] _ (marks_nil _ _) ⟨hw, hr2, hr3⟩
  rintro X ⟨hX, x2, x3⟩
  have v0 := x2.cell 0
  have v1 := x2.cell 1
  have u0 := x3.cell 0
  have u1 := x3.cell 1
  simp only [List.getElem?_cons_zero, List.getElem?_cons_succ] at v0 v1 u0 u1
  refine ⟨.tuple #[.agg #[.int .i64 0, .int .i64 0], .agg #[.int .i64 0, .int .i64 0], .int .i64 1], ?_, rfl, hX⟩
  simp [results, Try.results26, go_sem, v0, v1, u0, u1]
/-- the first pair with the least, and the first one with the greatest distance -/
def nrK (ps : List Pt) (l : List (Nat × Nat)) : Nat × Nat := l.foldl (fun m t => if pdF ps t < pdF ps m then t else m) (0, 1)
def faK (ps : List Pt) (l : List (Nat × Nat)) : Nat × Nat := l.foldl (fun m t => if pdF ps t > pdF ps m then t else m) (0, 1)
theorem nrK_snoc (ps : List Pt) (l : List (Nat × Nat)) (t : Nat × Nat) : nrK ps (l ++ [t]) = if pdF ps t < pdF ps (nrK ps l) then t else nrK ps l := by
  unfold nrK; rw [List.foldl_append]; rfl
theorem faK_snoc (ps : List Pt) (l : List (Nat × Nat)) (t : Nat × Nat) : faK ps (l ++ [t]) = if pdF ps t > pdF ps (faK ps l) then t else faK ps l := by
  unfold faK; rw [List.foldl_append]; rfl
theorem nrK_mem (ps : List Pt) : ∀ l : List (Nat × Nat), ∀ m, l.foldl (fun m t => if pdF ps t < pdF ps m then t else m) m = m ∨ l.foldl (fun m t => if pdF ps t < pdF ps m then t else m) m ∈ l
  | [], m => .inl rfl
  | t :: l, m => by
    rw [List.foldl_cons]
    rcases nrK_mem ps l (if pdF ps t < pdF ps m then t else m) with h | h
    · rw [h]; split
      · exact .inr (by simp)
      · exact .inl rfl
    · exact .inr (List.mem_cons_of_mem _ h)
theorem faK_mem (ps : List Pt) : ∀ l : List (Nat × Nat), ∀ m, l.foldl (fun m t => if pdF ps t > pdF ps m then t else m) m = m ∨ l.foldl (fun m t => if pdF ps t > pdF ps m then t else m) m ∈ l
  | [], m => .inl rfl
  | t :: l, m => by
    rw [List.foldl_cons]
    rcases faK_mem ps l (if pdF ps t > pdF ps m then t else m) with h | h
    · rw [h]; split
      · exact .inr (by simp)
      · exact .inl rfl
    · exact .inr (List.mem_cons_of_mem _ h)
end Go.Proofs.Ytlemipnplgbckaa
