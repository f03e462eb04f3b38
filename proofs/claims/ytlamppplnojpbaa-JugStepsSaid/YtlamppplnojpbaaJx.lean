import Derived.Test.YtlamppplnojpbaaJw
import Derived.Laws.AppendOwn
import Derived.ChangeKeysEq
import Derived.Maps.OwnIn
import Derived.Maps.AppendAt
import Derived.RangeFuncNested
import Derived.RangeFuncBound
import Derived.RangeFuncCalls
import Derived.RangeFuncLeaves
import Derived.Shelf.Abstract
import Derived.Shelf.RegionOpen
import Derived.WalkKit
import Derived.WalkMore
import Derived.OwnWalkIn
import Derived.TacticsInMore
import Derived.LoopNIn
import Derived.LoopIn
import Derived.WalkSpells
import Derived.WalkLawsBesides
import Derived.BigQuiet
import Derived.Deep.QuietTactic
import Derived.Lib.Hide
import Derived.Deep.RegionHeld3
import Derived.StillTailTactics
import Derived.Deep.LoopGhost
import Derived.Maps.OwnSet
import Derived.Lib.IndexAny
import Derived.Sort.QuietThIn
import Derived.Sort.QuietTacIn
import Derived.Sort.BigQuietIn
namespace Go.Proofs.Ytlamppplnojpbaa
open Go.RowKit Go.Shelf
attribute [local go_sem] Oper.semAt_some
theorem WayV.mono {N N' : Nat} {ps : List Pt} {ok : Bool} {v : Value} {W : World} (h : WayV N ps ok v W) (hN : N' ≤ N) : WayV N' ps ok v W := by
  obtain ⟨s, h1, h2⟩ := h
  exact ⟨s, h1, owns_mono h2 hN⟩
def glA (n : Nat) (a : Int) : List Int → Bool := fun F => holdsB n F a
theorem jugs_open {zs : List Int} (h : jugsB zs = true) : 1 ≤ zs.length ∧ zs.length ≤ 4 ∧ ∃ p0 p1 p2 p3, padF zs = [p0, p1, p2, p3] ∧ jugV zs = .agg #[.int .i64 (zs.length : Int), .int .i64 p0, .int .i64 p1, .int .i64 p2, .int .i64 p3] ∧ (0 ≤ p0 ∧ p0 ≤ 12) ∧ (0 ≤ p1 ∧ p1 ≤ 12) ∧ (0 ≤ p2 ∧ p2 ≤ 12) ∧ (0 ≤ p3 ∧ p3 ≤ 12) := by
  unfold jugsB at h
  simp only [Bool.and_eq_true, decide_eq_true_eq, List.all_eq_true] at h
  obtain ⟨⟨h1, h2⟩, h3⟩ := h
  obtain ⟨p0, p1, p2, p3, hp⟩ := agg4 (padF zs) (padF_len zs)
  have hb : ∀ p ∈ padF zs, 0 ≤ p ∧ p ≤ 12 := fun p hp => by
    unfold padF at hp
    have hp2 := List.mem_of_mem_take hp
    rcases List.mem_append.1 hp2 with h | h
    · have := h3 p h
      unfold sizeB at this
      simp only [Bool.and_eq_true, decide_eq_true_eq] at this
      omega
    · have := (List.mem_replicate.1 h).2
      omega
  rw [hp] at hb
  refine ⟨h1, h2, p0, p1, p2, p3, hp, ?_, hb _ (by simp), hb _ (by simp), hb _ (by simp), hb _ (by simp)⟩
  unfold jugV
  rw [hp]
  simp [encI]
theorem len12 {vs : List Value} (h : vs.length = 12) : ∃ x0 x1 x2 x3 x4 x5 x6 x7 x8 x9 x10 x11, vs = [x0, x1, x2, x3, x4, x5, x6, x7, x8, x9, x10, x11] := by
  obtain ⟨x0, r0, rfl, h0⟩ := len_cons h
  obtain ⟨x1, r1, rfl, h1⟩ := len_cons h0
  obtain ⟨x2, r2, rfl, h2⟩ := len_cons h1
  obtain ⟨x3, r3, rfl, h3⟩ := len_cons h2
  obtain ⟨x4, r4, rfl, h4⟩ := len_cons h3
  obtain ⟨x5, r5, rfl, h5⟩ := len_cons h4
  obtain ⟨x6, r6, rfl, h6⟩ := len_cons h5
  obtain ⟨x7, r7, rfl, h7⟩ := len_cons h6
  obtain ⟨x8, r8, rfl, h8⟩ := len_cons h7
  obtain ⟨x9, r9, rfl, h9⟩ := len_cons h8
  obtain ⟨x10, r10, rfl, h10⟩ := len_cons h9
  obtain ⟨x11, r11, rfl, h11⟩ := len_cons h10
  obtain rfl := List.eq_nil_of_length_eq_zero h11
  exact ⟨_, _, _, _, _, _, _, _, _, _, _, _, rfl⟩
set_option maxRecDepth 100000 in
set_option maxHeartbeats 4000000 in
theorem measure_any (zs : List Int) (v : Value) (a : Int) (w : World) (hv : SlI w v zs) (hj : jugsB zs = true) (res : Sn × Option (List Int)) (hres : srch (padF zs) (glA zs.length a) (stepsL (-1) (zs.length + 1)) 28562 [0, 0, 0, 0] = some res) :
    Calls Try.prog 48 #[v, .int .i64 a] w fun e w' => ∃ x, e = .returned x ∧ WayV w.heap.size (wayF res) res.2.isSome x w' ∧ Below w.heap.size w w' := by
  obtain ⟨h1, h4, p0, p1, p2, p3, hp, hjv, b0, b1, b2, b3⟩ := jugs_open hj
  have hfit : FitP [p0, p1, p2, p3] [0, 0, 0, 0] := ⟨rfl, fun i hi => by match i, hi with | 0, _ | 1, _ | 2, _ | 3, _ => simp; omega⟩
  rw [hp] at hres
  obtain ⟨n, hn0⟩ : ∃ n, zs.length = n := ⟨_, rfl⟩
  rw [hn0] at hres hjv
  have hn : n ≤ 4 := by omega
  have hst := srch_tree _ _ (-1) (n + 1) (.inl rfl) (by omega) _ hfit _ res hres
  have hfd := fun b W hs => found_any res hst.1 (fun g hg => (hst.2.2 g hg).1) b W hs
  generalize res.2.isSome = ok at *
  generalize wayF res = way at *
  have HFD := Lib.hid hfd
  have HFIT := Lib.hid hfit
  have HRES := Lib.hid hres
  have HM := Lib.hid (show (n : Int) = -1 + ((n + 1 : Nat) : Int) by omega)
  have ba := (Below.refl w.heap.size w).alloc (Nat.le_refl _) (.cells #[.int .i64 a] 3)
  have za := size_al w (.cells #[.int .i64 a] 3)
  have ra := Row.new w 3 [.int .i64 a]
  have hc := jugsOf_any zs v _ (hv.grow ba) h4
  rw [hjv] at hc
  have HCJ := Lib.hid hc
  have BA := Lib.hid ba
  have RA := Lib.hid ra
  have ZA := Lib.hid za
  clear hp hj hjv b0 b1 b2 b3 h1 h4 hn0 hst hfd hfit hres ba za ra hc hv
  go_enter Try.func48, Try.ntmps48
  go_wp2_with fail
  refine HCJ.out.mono ?_
  rintro e w1 ⟨rfl, hb⟩
  have bj := (Below.refl w1.heap.size w1).alloc (Nat.le_refl _) (.cells #[.int .i64 (n : Int), .int .i64 p0, .int .i64 p1, .int .i64 p2, .int .i64 p3] 80)
  have rj := Row.new w1 80 [.int .i64 (n : Int), .int .i64 p0, .int .i64 p1, .int .i64 p2, .int .i64 p3]
  have ra2 := (RA.out.below hb RA.out.lt).below bj (RA.out.below hb RA.out.lt).lt
  have RJ := Lib.hid rj
  have RA2 := Lib.hid ra2
  have B2 := Lib.hid (Below.andThen (Below.andThen BA.out hb (Nat.le_refl _)) bj (Nat.le_refl _))
  have HN0 := Lib.hid B2.out.size
  have HAG := Lib.hid (fun (W2 : World) x0 x1 x2 x3 (hb2 : Below (w1.alloc (.cells #[.int .i64 (n : Int), .int .i64 p0, .int .i64 p1, .int .i64 p2, .int .i64 p3] 80)).heap.size (w1.alloc (.cells #[.int .i64 (n : Int), .int .i64 p0, .int .i64 p1, .int .i64 p2, .int .i64 p3] 80)) W2) => amountGoal_any n hn p0 p1 p2 p3 a x0 x1 x2 x3 w1.heap.size w.heap.size W2 (RJ.out.below hb2 RJ.out.lt) (RA2.out.below hb2 RA2.out.lt))
  clear hb bj rj ra2 HCJ
  go_wp2_with fail
  refine wp_region_rel (by kernel_rfl) (by kernel_rfl) [9, 10, 11, 12, 13, 14, 15, 16, 17, 18, 4, 5] [LitR (.agg #[.int .i64 0, .int .i64 0, .int .i64 0, .int .i64 0]), LitR (.agg #[.int .i64 (n : Int), .int .i64 p0, .int .i64 p1, .int .i64 p2, .int .i64 p3]), (StepsV (n : Int) p0 p1 p2 p3 (-1)), LitR (.agg #[.int .i64 (n : Int), .int .i64 p0, .int .i64 p1, .int .i64 p2, .int .i64 p3]), LitR (.func (.func 54) #[.agg #[.int .i64 (n : Int), .int .i64 p0, .int .i64 p1, .int .i64 p2, .int .i64 p3]] #[]), LitR (.func (.func 66) #[] #[.pointer (some ⟨w1.heap.size, 0, none⟩), .pointer (some ⟨w.heap.size, 0, none⟩)]), (FoundV res), (WayV w.heap.size way ok), (LstV w.heap.size way), LitR (.bool ok), (LstV w.heap.size way), LitR (.bool ok)] 12 rfl (List.forall_mem_cons.2 ⟨LitR.stab _, (List.forall_mem_cons.2 ⟨LitR.stab _, (List.forall_mem_cons.2 ⟨StepsV.stab _ _ _ _ _ _, (List.forall_mem_cons.2 ⟨LitR.stab _, (List.forall_mem_cons.2 ⟨LitR.stab _, (List.forall_mem_cons.2 ⟨LitR.stab _, (List.forall_mem_cons.2 ⟨FoundV.stab _, (List.forall_mem_cons.2 ⟨WayV.stab _ _ _, (List.forall_mem_cons.2 ⟨LstV.stab _ _, (List.forall_mem_cons.2 ⟨LitR.stab _, (List.forall_mem_cons.2 ⟨LstV.stab _ _, (List.forall_mem_cons.2 ⟨LitR.stab _, (fun _ h => nomatch h)⟩)⟩)⟩)⟩)⟩)⟩)⟩)⟩)⟩)⟩)⟩)⟩) ⟨[undef, undef, undef, undef, undef, undef, undef, undef, undef, undef, .slice none 0 0, .bool false], by simp only [putAll, Act.put, List.setIfInBounds_toArray, List.set_cons_succ, List.set_cons_zero], rfl⟩ ?steps ?fin
  case steps =>
    simp only [relSteps]
    refine ⟨?_, ?_, ?_, ?_, ?_, ?_, ?_, ?_, ?_, ?_, ?_, ?_, trivial⟩
    · rintro vs W K hc hvl hw hK
      obtain ⟨x0, x1, x2, x3, x4, x5, x6, x7, x8, x9, x10, x11, rfl⟩ := len12 hvl
      have HK := Lib.hid hK
      have HC := Lib.hid hc
      have HW := Lib.hid hw
      clear hK hc hw hvl
      simp only [putAll, Act.put, List.setIfInBounds_toArray, List.set_cons_succ, List.set_cons_zero]
      clear HW
      go_wp2_with fail
      have fin := HK.out (.agg #[.int .i64 0, .int .i64 0, .int .i64 0, .int .i64 0]) W (Below.refl _ _) rfl
      simp only [putAll, Act.put, List.setIfInBounds_toArray, List.set_cons_succ, List.set_cons_zero] at fin
      exact fin
    · rintro vs W K hc hvl hw hK
      obtain ⟨x0, x1, x2, x3, x4, x5, x6, x7, x8, x9, x10, x11, rfl⟩ := len12 hvl
      have HK := Lib.hid hK
      have HC := Lib.hid hc
      have HW := Lib.hid hw
      clear hK hc hw hvl
      simp only [putAll, Act.put, List.setIfInBounds_toArray, List.set_cons_succ, List.set_cons_zero]
      have rj1 := RJ.out.below HC.out RJ.out.lt
      have j0 : W.cell? ⟨w1.heap.size, 0, none⟩ = some (.int .i64 (n : Int)) := rj1.cell 0
      have j1 : W.cell? ⟨w1.heap.size, 1, none⟩ = some (.int .i64 p0) := rj1.cell 1
      have j2 : W.cell? ⟨w1.heap.size, 2, none⟩ = some (.int .i64 p1) := rj1.cell 2
      have j3 : W.cell? ⟨w1.heap.size, 3, none⟩ = some (.int .i64 p2) := rj1.cell 3
      have j4 : W.cell? ⟨w1.heap.size, 4, none⟩ = some (.int .i64 p3) := rj1.cell 4
      clear rj1
      clear HW
      go_wp2_with fail
      have fin := HK.out (.agg #[.int .i64 (n : Int), .int .i64 p0, .int .i64 p1, .int .i64 p2, .int .i64 p3]) W (Below.refl _ _) rfl
      simp only [putAll, Act.put, List.setIfInBounds_toArray, List.set_cons_succ, List.set_cons_zero] at fin
      exact fin
    · rintro vs W K hc hvl hw hK
      obtain ⟨x0, x1, x2, x3, x4, x5, x6, x7, x8, x9, x10, x11, rfl⟩ := len12 hvl
      have HK := Lib.hid hK
      have HC := Lib.hid hc
      have HW := Lib.hid hw
      clear hK hc hw hvl
      have hd1 := HW.out ⟨1, .data⟩ (by simp) rfl
      obtain rfl : x1 = .agg #[.int .i64 (n : Int), .int .i64 p0, .int .i64 p1, .int .i64 p2, .int .i64 p3] := rel_get hd1 rfl
      simp only [putAll, Act.put, List.setIfInBounds_toArray, List.set_cons_succ, List.set_cons_zero]
      clear HW hd1
      go_wp2_with fail
      refine (steps_any (n : Int) p0 p1 p2 p3 false W).mono ?_
      rintro e W' ⟨rfl, hb1, hb2, hb3⟩
      have HB' := Lib.hid hb1
      have HB2 := Lib.hid hb2
      have HB3 := Lib.hid hb3
      clear hb1 hb2 hb3
      go_wp2_with fail
      have fin := HK.out (.func (.func 70) #[] #[.pointer (some ⟨W.heap.size + 1, 0, none⟩), .pointer (some ⟨W.heap.size, 0, none⟩)]) W' HB'.out ⟨_, _, rfl, HB3.out, HB2.out⟩
      simp only [putAll, Act.put, List.setIfInBounds_toArray, List.set_cons_succ, List.set_cons_zero] at fin
      exact fin
    · rintro vs W K hc hvl hw hK
      obtain ⟨x0, x1, x2, x3, x4, x5, x6, x7, x8, x9, x10, x11, rfl⟩ := len12 hvl
      have HK := Lib.hid hK
      have HC := Lib.hid hc
      have HW := Lib.hid hw
      clear hK hc hw hvl
      simp only [putAll, Act.put, List.setIfInBounds_toArray, List.set_cons_succ, List.set_cons_zero]
      have rj1 := RJ.out.below HC.out RJ.out.lt
      have j0 : W.cell? ⟨w1.heap.size, 0, none⟩ = some (.int .i64 (n : Int)) := rj1.cell 0
      have j1 : W.cell? ⟨w1.heap.size, 1, none⟩ = some (.int .i64 p0) := rj1.cell 1
      have j2 : W.cell? ⟨w1.heap.size, 2, none⟩ = some (.int .i64 p1) := rj1.cell 2
      have j3 : W.cell? ⟨w1.heap.size, 3, none⟩ = some (.int .i64 p2) := rj1.cell 3
      have j4 : W.cell? ⟨w1.heap.size, 4, none⟩ = some (.int .i64 p3) := rj1.cell 4
      clear rj1
      clear HW
      go_wp2_with fail
      have fin := HK.out (.agg #[.int .i64 (n : Int), .int .i64 p0, .int .i64 p1, .int .i64 p2, .int .i64 p3]) W (Below.refl _ _) rfl
      simp only [putAll, Act.put, List.setIfInBounds_toArray, List.set_cons_succ, List.set_cons_zero] at fin
      exact fin
    · rintro vs W K hc hvl hw hK
      obtain ⟨x0, x1, x2, x3, x4, x5, x6, x7, x8, x9, x10, x11, rfl⟩ := len12 hvl
      have HK := Lib.hid hK
      have HC := Lib.hid hc
      have HW := Lib.hid hw
      clear hK hc hw hvl
      have hd3 := HW.out ⟨3, .data⟩ (by simp) rfl
      obtain rfl : x3 = .agg #[.int .i64 (n : Int), .int .i64 p0, .int .i64 p1, .int .i64 p2, .int .i64 p3] := rel_get hd3 rfl
      simp only [putAll, Act.put, List.setIfInBounds_toArray, List.set_cons_succ, List.set_cons_zero]
      clear HW hd3
      go_wp2_with fail
      have fin := HK.out (.func (.func 54) #[.agg #[.int .i64 (n : Int), .int .i64 p0, .int .i64 p1, .int .i64 p2, .int .i64 p3]] #[]) W (Below.refl _ _) rfl
      simp only [putAll, Act.put, List.setIfInBounds_toArray, List.set_cons_succ, List.set_cons_zero] at fin
      exact fin
    · rintro vs W K hc hvl hw hK
      obtain ⟨x0, x1, x2, x3, x4, x5, x6, x7, x8, x9, x10, x11, rfl⟩ := len12 hvl
      have HK := Lib.hid hK
      have HC := Lib.hid hc
      have HW := Lib.hid hw
      clear hK hc hw hvl
      simp only [putAll, Act.put, List.setIfInBounds_toArray, List.set_cons_succ, List.set_cons_zero]
      clear HW
      go_wp2_with fail
      have fin := HK.out (.func (.func 66) #[] #[.pointer (some ⟨w1.heap.size, 0, none⟩), .pointer (some ⟨w.heap.size, 0, none⟩)]) W (Below.refl _ _) rfl
      simp only [putAll, Act.put, List.setIfInBounds_toArray, List.set_cons_succ, List.set_cons_zero] at fin
      exact fin
    · rintro vs W K hc hvl hw hK
      obtain ⟨x0, x1, x2, x3, x4, x5, x6, x7, x8, x9, x10, x11, rfl⟩ := len12 hvl
      have HK := Lib.hid hK
      have HC := Lib.hid hc
      have HW := Lib.hid hw
      clear hK hc hw hvl
      have hd0 := HW.out ⟨0, .data⟩ (by simp) rfl
      obtain rfl : x0 = .agg #[.int .i64 0, .int .i64 0, .int .i64 0, .int .i64 0] := rel_get hd0 rfl
      have hd2 := HW.out ⟨2, .data⟩ (by simp) rfl
      have hr := rel_get (x := x2) hd2 rfl
      obtain ⟨bl, bj, rfl, hrl, hrj⟩ := hr
      have HRL := Lib.hid hrl
      have HRJ := Lib.hid hrj
      clear hrl hrj
      have hd4 := HW.out ⟨4, .data⟩ (by simp) rfl
      obtain rfl : x4 = .func (.func 54) #[.agg #[.int .i64 (n : Int), .int .i64 p0, .int .i64 p1, .int .i64 p2, .int .i64 p3]] #[] := rel_get hd4 rfl
      have hd5 := HW.out ⟨5, .data⟩ (by simp) rfl
      obtain rfl : x5 = .func (.func 66) #[] #[.pointer (some ⟨w1.heap.size, 0, none⟩), .pointer (some ⟨w.heap.size, 0, none⟩)] := rel_get hd5 rfl
      simp only [putAll, Act.put, List.setIfInBounds_toArray, List.set_cons_succ, List.set_cons_zero]
      clear HW hd0 hd2 hd4 hd5
      go_wp2_with fail
      refine (search_any 0 0 0 0 (glA n a) 66 #[.pointer (some ⟨w1.heap.size, 0, none⟩), .pointer (some ⟨w.heap.size, 0, none⟩)] n p0 p1 p2 p3 (-1) (n + 1) hn (.inl rfl) HM.out bl bj W HRL.out HRJ.out (enters_of Try.func66 (by kernel_rfl) rfl) (fun W2 x0 x1 x2 x3 hb2 _ => HAG.out W2 x0 x1 x2 x3 (Below.andThen HC.out hb2 (Nat.le_refl _))) HFIT.out 28562 (by omega) res HRES.out).mono ?_
      rintro e W' ⟨rfl, hs1, hb1⟩
      have HB' := Lib.hid hb1
      have HS1 := Lib.hid hs1
      clear hb1 hs1
      go_wp2_with fail
      have fin := HK.out (foundV (W.heap.size + 1 + 1 + 1 + 1) res) W' HB'.out ⟨_, rfl, HS1.out⟩
      simp only [putAll, Act.put, List.setIfInBounds_toArray, List.set_cons_succ, List.set_cons_zero] at fin
      exact fin
    · rintro vs W K hc hvl hw hK
      obtain ⟨x0, x1, x2, x3, x4, x5, x6, x7, x8, x9, x10, x11, rfl⟩ := len12 hvl
      have HK := Lib.hid hK
      have HC := Lib.hid hc
      have HW := Lib.hid hw
      clear hK hc hw hvl
      have hd6 := HW.out ⟨6, .data⟩ (by simp) rfl
      have hr := rel_get (x := x6) hd6 rfl
      obtain ⟨bf, rfl, hsn⟩ := hr
      have HSN := Lib.hid hsn
      clear hsn
      simp only [putAll, Act.put, List.setIfInBounds_toArray, List.set_cons_succ, List.set_cons_zero]
      clear HW hd6
      go_wp2_with fail
      refine (HFD.out bf W HSN.out).mono ?_
      rintro e W' ⟨x, rfl, hw1, hb1⟩
      have HB' := Lib.hid hb1
      have HW1 := Lib.hid (WayV.mono hw1 (Nat.le_trans HN0.out HC.out.size))
      clear hb1 hw1
      go_wp2_with fail
      have fin := HK.out (x) W' HB'.out HW1.out
      simp only [putAll, Act.put, List.setIfInBounds_toArray, List.set_cons_succ, List.set_cons_zero] at fin
      exact fin
    · rintro vs W K hc hvl hw hK
      obtain ⟨x0, x1, x2, x3, x4, x5, x6, x7, x8, x9, x10, x11, rfl⟩ := len12 hvl
      have HK := Lib.hid hK
      have HC := Lib.hid hc
      have HW := Lib.hid hw
      clear hK hc hw hvl
      have hd7 := HW.out ⟨7, .data⟩ (by simp) rfl
      have hr := rel_get (x := x7) hd7 rfl
      obtain ⟨s, rfl, ho⟩ := hr
      have HO := Lib.hid ho
      clear ho
      simp only [putAll, Act.put, List.setIfInBounds_toArray, List.set_cons_succ, List.set_cons_zero]
      clear HW hd7
      go_wp2_with fail
      have fin := HK.out (s) W (Below.refl _ _) HO.out
      simp only [putAll, Act.put, List.setIfInBounds_toArray, List.set_cons_succ, List.set_cons_zero] at fin
      exact fin
    · rintro vs W K hc hvl hw hK
      obtain ⟨x0, x1, x2, x3, x4, x5, x6, x7, x8, x9, x10, x11, rfl⟩ := len12 hvl
      have HK := Lib.hid hK
      have HC := Lib.hid hc
      have HW := Lib.hid hw
      clear hK hc hw hvl
      have hd7 := HW.out ⟨7, .data⟩ (by simp) rfl
      have hr := rel_get (x := x7) hd7 rfl
      obtain ⟨s, rfl, ho⟩ := hr
      have HO := Lib.hid ho
      clear ho
      simp only [putAll, Act.put, List.setIfInBounds_toArray, List.set_cons_succ, List.set_cons_zero]
      clear HW hd7
      go_wp2_with fail
      have fin := HK.out (.bool ok) W (Below.refl _ _) rfl
      simp only [putAll, Act.put, List.setIfInBounds_toArray, List.set_cons_succ, List.set_cons_zero] at fin
      exact fin
    · rintro vs W K hc hvl hw hK
      obtain ⟨x0, x1, x2, x3, x4, x5, x6, x7, x8, x9, x10, x11, rfl⟩ := len12 hvl
      have HK := Lib.hid hK
      have HC := Lib.hid hc
      have HW := Lib.hid hw
      clear hK hc hw hvl
      have hd8 := HW.out ⟨8, .data⟩ (by simp) rfl
      have hr := rel_get (x := x8) hd8 rfl
      have HO := Lib.hid (show OwnP W w.heap.size x8 way from hr)
      simp only [putAll, Act.put, List.setIfInBounds_toArray, List.set_cons_succ, List.set_cons_zero]
      clear HW hd8
      go_wp2_with fail
      have fin := HK.out (x8) W (Below.refl _ _) HO.out
      simp only [putAll, Act.put, List.setIfInBounds_toArray, List.set_cons_succ, List.set_cons_zero] at fin
      exact fin
    · rintro vs W K hc hvl hw hK
      obtain ⟨x0, x1, x2, x3, x4, x5, x6, x7, x8, x9, x10, x11, rfl⟩ := len12 hvl
      have HK := Lib.hid hK
      have HC := Lib.hid hc
      have HW := Lib.hid hw
      clear hK hc hw hvl
      have hd9 := HW.out ⟨9, .data⟩ (by simp) rfl
      obtain rfl : x9 = .bool ok := rel_get hd9 rfl
      simp only [putAll, Act.put, List.setIfInBounds_toArray, List.set_cons_succ, List.set_cons_zero]
      clear HW hd9
      go_wp2_with fail
      have fin := HK.out (.bool ok) W (Below.refl _ _) rfl
      simp only [putAll, Act.put, List.setIfInBounds_toArray, List.set_cons_succ, List.set_cons_zero] at fin
      exact fin
  case fin =>
    intro vs W hc hvl hv
    obtain ⟨x0, x1, x2, x3, x4, x5, x6, x7, x8, x9, x10, x11, rfl⟩ := len12 hvl
    have hd10 := hv 10 (by omega)
    have hr := rel_get (x := x10) hd10 rfl
    have HO := Lib.hid (show OwnP W w.heap.size x10 way from hr)
    clear hd10
    have hd11 := hv 11 (by omega)
    obtain rfl : x11 = .bool ok := rel_get hd11 rfl
    clear hd11
    simp only [putAll, Act.put, List.setIfInBounds_toArray, List.set_cons_succ, List.set_cons_zero]
    have T := Lib.hid (Below.andThen B2.out hc (Nat.le_refl _))
    clear hv hc hvl hr
    go_wp2_with fail
    go_ret2
    refine ⟨_, rfl, ⟨x10, rfl, HO.out⟩, T.out⟩
end Go.Proofs.Ytlamppplnojpbaa
