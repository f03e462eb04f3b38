import Derived.Test.YtlamppplnojpbaaJx
import Derived.Laws.AppendOwn
import Derived.ChangeKeysEq
import Derived.Maps.OwnIn
import Derived.Maps.AppendAt
import Derived.RangeFuncNested
import Derived.RangeFuncBound
import Derived.RangeFuncCalls
import Derived.RangeFuncLeaves
import Derived.Shelf.Abstract
import Derived.Shelf.RegionOpen
import Derived.WalkKit
import Derived.WalkMore
import Derived.OwnWalkIn
import Derived.TacticsInMore
import Derived.LoopNIn
import Derived.LoopIn
import Derived.WalkSpells
import Derived.WalkLawsBesides
import Derived.BigQuiet
import Derived.Deep.QuietTactic
import Derived.Lib.Hide
import Derived.Deep.RegionHeld3
import Derived.StillTailTactics
import Derived.Deep.LoopGhost
import Derived.Maps.OwnSet
import Derived.Lib.IndexAny
import Derived.Sort.QuietThIn
import Derived.Sort.QuietTacIn
import Derived.Sort.BigQuietIn
namespace Go.Proofs.Ytlamppplnojpbaa
open Go.RowKit Go.Shelf
attribute [local go_sem] Oper.semAt_some
theorem len10 {vs : List Value} (h : vs.length = 10) : ∃ x0 x1 x2 x3 x4 x5 x6 x7 x8 x9, vs = [x0, x1, x2, x3, x4, x5, x6, x7, x8, x9] := by
  obtain ⟨x0, r0, rfl, h0⟩ := len_cons h
  obtain ⟨x1, r1, rfl, h1⟩ := len_cons h0
  obtain ⟨x2, r2, rfl, h2⟩ := len_cons h1
  obtain ⟨x3, r3, rfl, h3⟩ := len_cons h2
  obtain ⟨x4, r4, rfl, h4⟩ := len_cons h3
  obtain ⟨x5, r5, rfl, h5⟩ := len_cons h4
  obtain ⟨x6, r6, rfl, h6⟩ := len_cons h5
  obtain ⟨x7, r7, rfl, h7⟩ := len_cons h6
  obtain ⟨x8, r8, rfl, h8⟩ := len_cons h7
  obtain ⟨x9, r9, rfl, h9⟩ := len_cons h8
  obtain rfl := List.eq_nil_of_length_eq_zero h9
  exact ⟨_, _, _, _, _, _, _, _, _, _, rfl⟩
theorem field89F (b : Nat) (res : Sn × Option (List Int)) (W : World) : (Instr.field 89 (foundV b res) 0).run Try.prog W = .ok (.map (some b)) W := by kernel_rfl
def glN : List Int → Bool := fun _ => false
theorem stepsV_any (n p0 p1 p2 p3 : Int) (cl : Bool) (w : World) : Calls Try.prog 53 #[.agg #[.int .i64 n, .int .i64 p0, .int .i64 p1, .int .i64 p2, .int .i64 p3], .bool cl] w fun e w' => ∃ x, e = .returned x ∧ StepsV n p0 p1 p2 p3 (if cl = true then 0 else -1) x w' ∧ Below w.heap.size w w' :=
  (steps_any n p0 p1 p2 p3 cl w).mono fun e w' ⟨h1, h2, h3, h4⟩ => ⟨_, h1, ⟨_, _, rfl, h4, h3⟩, h2⟩
/-- the least end of the steps, and how many there are -/
def lsF (cl : Bool) : Int := if cl = true then 0 else -1
def mF (cl : Bool) (n : Nat) : Nat := if cl = true then n else n + 1
theorem lsF_ok (cl : Bool) : lsF cl = -1 ∨ lsF cl = 0 := by cases cl <;> simp [lsF]
theorem mF_ok (cl : Bool) (n : Nat) : (n : Int) = lsF cl + (mF cl n : Int) := by cases cl <;> simp [lsF, mF] <;> omega
def ssF (cl : Bool) (n : Nat) : List (Int × Int) := stepsL (lsF cl) (mF cl n)
set_option maxRecDepth 100000 in
set_option maxHeartbeats 4000000 in
theorem reached_any (zs fs : List Int) (v u : Value) (cl : Bool) (w : World) (hv : SlI w v zs) (hu : SlI w u fs) (hfl : fs.length ≤ 4) (hj : jugsB zs = true) (hfit : FitP (padF zs) (padF fs)) (res : Sn × Option (List Int)) (hres : srch (padF zs) glN (ssF cl zs.length) 28562 (padF fs) = some res) :
    Calls Try.prog 49 #[v, u, .bool cl] w fun e w' => ∃ x, e = .returned x ∧ MapV res.1 x w' ∧ Below w.heap.size w w' := by
  obtain ⟨h1, h4, p0, p1, p2, p3, hp, hjv, b0, b1, b2, b3⟩ := jugs_open hj
  obtain ⟨f0, f1, f2, f3, hf⟩ := agg4 (padF fs) (padF_len fs)
  rw [hp, hf] at hres hfit
  obtain ⟨n, hn0⟩ : ∃ n, zs.length = n := ⟨_, rfl⟩
  rw [hn0] at hres hjv
  have hn : n ≤ 4 := by omega
  unfold ssF at hres
  have hst := stepsV_any (n : Int) p0 p1 p2 p3 cl
  rw [show (if cl = true then (0 : Int) else -1) = lsF cl from rfl] at hst
  have HST := Lib.hid hst
  have HLS := Lib.hid (lsF_ok cl)
  have HM := Lib.hid (mF_ok cl n)
  generalize lsF cl = ls at *
  generalize mF cl n = m at *
  have HFIT := Lib.hid hfit
  have HRES := Lib.hid hres
  have hc := jugsOf_any zs v w hv h4
  rw [hjv] at hc
  have HCJ := Lib.hid hc
  have HF0 := Lib.hid (fun (W : World) (hb : Below w.heap.size w W) => fillingOf_any fs u W (hu.grow hb) hfl)
  clear hp hj hjv b0 b1 b2 b3 h1 h4 hn0 hst hfit hres hc hv
  go_enter Try.func49, Try.ntmps49
  go_wp2_with fail
  refine HCJ.out.mono ?_
  rintro e w1 ⟨rfl, hb⟩
  have bj := (Below.refl w1.heap.size w1).alloc (Nat.le_refl _) (.cells #[.int .i64 (n : Int), .int .i64 p0, .int .i64 p1, .int .i64 p2, .int .i64 p3] 80)
  have rj := Row.new w1 80 [.int .i64 (n : Int), .int .i64 p0, .int .i64 p1, .int .i64 p2, .int .i64 p3]
  have RJ := Lib.hid rj
  have hB2 := Below.andThen hb bj (Nat.le_refl _)
  have B2 := Lib.hid hB2
  have hf2 : ∀ W, Below (w1.alloc (.cells #[.int .i64 (n : Int), .int .i64 p0, .int .i64 p1, .int .i64 p2, .int .i64 p3] 80)).heap.size (w1.alloc (.cells #[.int .i64 (n : Int), .int .i64 p0, .int .i64 p1, .int .i64 p2, .int .i64 p3] 80)) W → Calls Try.prog 52 #[u] W fun e w' => e = .returned (.agg #[.int .i64 f0, .int .i64 f1, .int .i64 f2, .int .i64 f3]) ∧ Below W.heap.size W w' := fun W h => by
    have h := HF0.out W (Below.andThen hB2 h (Nat.le_refl _))
    rw [hf] at h
    exact h
  have HF := Lib.hid hf2
  clear hb bj rj HCJ hf2 hB2 HF0 hf hu hfl
  go_wp2_with fail
  refine wp_region_rel (by kernel_rfl) (by kernel_rfl) [10, 11, 12, 13, 14, 15, 16, 17, 18, 6] [LitR (u), LitR (.agg #[.int .i64 f0, .int .i64 f1, .int .i64 f2, .int .i64 f3]), LitR (.agg #[.int .i64 (n : Int), .int .i64 p0, .int .i64 p1, .int .i64 p2, .int .i64 p3]), LitR (.bool cl), (StepsV (n : Int) p0 p1 p2 p3 ls), LitR (.agg #[.int .i64 (n : Int), .int .i64 p0, .int .i64 p1, .int .i64 p2, .int .i64 p3]), LitR (.func (.func 54) #[.agg #[.int .i64 (n : Int), .int .i64 p0, .int .i64 p1, .int .i64 p2, .int .i64 p3]] #[]), (FoundV res), (MapV res.1), (MapV res.1)] 10 rfl (List.forall_mem_cons.2 ⟨LitR.stab _, (List.forall_mem_cons.2 ⟨LitR.stab _, (List.forall_mem_cons.2 ⟨LitR.stab _, (List.forall_mem_cons.2 ⟨LitR.stab _, (List.forall_mem_cons.2 ⟨StepsV.stab _ _ _ _ _ _, (List.forall_mem_cons.2 ⟨LitR.stab _, (List.forall_mem_cons.2 ⟨LitR.stab _, (List.forall_mem_cons.2 ⟨FoundV.stab _, (List.forall_mem_cons.2 ⟨MapV.stab _, (List.forall_mem_cons.2 ⟨MapV.stab _, (fun _ h => nomatch h)⟩)⟩)⟩)⟩)⟩)⟩)⟩)⟩)⟩)⟩) ⟨[undef, undef, undef, undef, undef, undef, undef, undef, undef, .map none], by simp only [putAll, Act.put, List.setIfInBounds_toArray, List.set_cons_succ, List.set_cons_zero], rfl⟩ ?steps ?fin
  case steps =>
    simp only [relSteps]
    refine ⟨?_, ?_, ?_, ?_, ?_, ?_, ?_, ?_, ?_, ?_, trivial⟩
    · rintro vs W K hc hvl hw hK
      obtain ⟨x0, x1, x2, x3, x4, x5, x6, x7, x8, x9, rfl⟩ := len10 hvl
      have HK := Lib.hid hK
      have HC := Lib.hid hc
      have HW := Lib.hid hw
      clear hK hc hw hvl
      simp only [putAll, Act.put, List.setIfInBounds_toArray, List.set_cons_succ, List.set_cons_zero]
      clear HW
      go_wp2_with fail
      have fin := HK.out (u) W (Below.refl _ _) rfl
      simp only [putAll, Act.put, List.setIfInBounds_toArray, List.set_cons_succ, List.set_cons_zero] at fin
      exact fin
    · rintro vs W K hc hvl hw hK
      obtain ⟨x0, x1, x2, x3, x4, x5, x6, x7, x8, x9, rfl⟩ := len10 hvl
      have HK := Lib.hid hK
      have HC := Lib.hid hc
      have HW := Lib.hid hw
      clear hK hc hw hvl
      have hd0 := HW.out ⟨0, .data⟩ (by simp) rfl
      obtain rfl : x0 = u := rel_get hd0 rfl
      simp only [putAll, Act.put, List.setIfInBounds_toArray, List.set_cons_succ, List.set_cons_zero]
      clear HW hd0
      go_wp2_with fail
      refine (HF.out W HC.out).mono ?_
      rintro e W' ⟨rfl, hb'⟩
      have HB' := Lib.hid hb'
      clear hb'
      go_wp2_with fail
      have fin := HK.out (.agg #[.int .i64 f0, .int .i64 f1, .int .i64 f2, .int .i64 f3]) W' HB'.out rfl
      simp only [putAll, Act.put, List.setIfInBounds_toArray, List.set_cons_succ, List.set_cons_zero] at fin
      exact fin
    · rintro vs W K hc hvl hw hK
      obtain ⟨x0, x1, x2, x3, x4, x5, x6, x7, x8, x9, rfl⟩ := len10 hvl
      have HK := Lib.hid hK
      have HC := Lib.hid hc
      have HW := Lib.hid hw
      clear hK hc hw hvl
      simp only [putAll, Act.put, List.setIfInBounds_toArray, List.set_cons_succ, List.set_cons_zero]
      have rj1 := RJ.out.below HC.out RJ.out.lt
      have j0 : W.cell? ⟨w1.heap.size, 0, none⟩ = some (.int .i64 (n : Int)) := rj1.cell 0
      have j1 : W.cell? ⟨w1.heap.size, 1, none⟩ = some (.int .i64 p0) := rj1.cell 1
      have j2 : W.cell? ⟨w1.heap.size, 2, none⟩ = some (.int .i64 p1) := rj1.cell 2
      have j3 : W.cell? ⟨w1.heap.size, 3, none⟩ = some (.int .i64 p2) := rj1.cell 3
      have j4 : W.cell? ⟨w1.heap.size, 4, none⟩ = some (.int .i64 p3) := rj1.cell 4
      clear rj1
      clear HW
      go_wp2_with fail
      have fin := HK.out (.agg #[.int .i64 (n : Int), .int .i64 p0, .int .i64 p1, .int .i64 p2, .int .i64 p3]) W (Below.refl _ _) rfl
      simp only [putAll, Act.put, List.setIfInBounds_toArray, List.set_cons_succ, List.set_cons_zero] at fin
      exact fin
    · rintro vs W K hc hvl hw hK
      obtain ⟨x0, x1, x2, x3, x4, x5, x6, x7, x8, x9, rfl⟩ := len10 hvl
      have HK := Lib.hid hK
      have HC := Lib.hid hc
      have HW := Lib.hid hw
      clear hK hc hw hvl
      simp only [putAll, Act.put, List.setIfInBounds_toArray, List.set_cons_succ, List.set_cons_zero]
      clear HW
      go_wp2_with fail
      have fin := HK.out (.bool cl) W (Below.refl _ _) rfl
      simp only [putAll, Act.put, List.setIfInBounds_toArray, List.set_cons_succ, List.set_cons_zero] at fin
      exact fin
    · rintro vs W K hc hvl hw hK
      obtain ⟨x0, x1, x2, x3, x4, x5, x6, x7, x8, x9, rfl⟩ := len10 hvl
      have HK := Lib.hid hK
      have HC := Lib.hid hc
      have HW := Lib.hid hw
      clear hK hc hw hvl
      have hd2 := HW.out ⟨2, .data⟩ (by simp) rfl
      obtain rfl : x2 = .agg #[.int .i64 (n : Int), .int .i64 p0, .int .i64 p1, .int .i64 p2, .int .i64 p3] := rel_get hd2 rfl
      have hd3 := HW.out ⟨3, .data⟩ (by simp) rfl
      obtain rfl : x3 = .bool cl := rel_get hd3 rfl
      simp only [putAll, Act.put, List.setIfInBounds_toArray, List.set_cons_succ, List.set_cons_zero]
      clear HW hd2 hd3
      go_wp2_with fail
      refine (HST.out W).mono ?_
      rintro e W' ⟨x, rfl, hst1, hb1⟩
      have HB' := Lib.hid hb1
      have HB2 := Lib.hid hst1
      clear hb1 hst1
      go_wp2_with fail
      have fin := HK.out (x) W' HB'.out HB2.out
      simp only [putAll, Act.put, List.setIfInBounds_toArray, List.set_cons_succ, List.set_cons_zero] at fin
      exact fin
    · rintro vs W K hc hvl hw hK
      obtain ⟨x0, x1, x2, x3, x4, x5, x6, x7, x8, x9, rfl⟩ := len10 hvl
      have HK := Lib.hid hK
      have HC := Lib.hid hc
      have HW := Lib.hid hw
      clear hK hc hw hvl
      simp only [putAll, Act.put, List.setIfInBounds_toArray, List.set_cons_succ, List.set_cons_zero]
      have rj1 := RJ.out.below HC.out RJ.out.lt
      have j0 : W.cell? ⟨w1.heap.size, 0, none⟩ = some (.int .i64 (n : Int)) := rj1.cell 0
      have j1 : W.cell? ⟨w1.heap.size, 1, none⟩ = some (.int .i64 p0) := rj1.cell 1
      have j2 : W.cell? ⟨w1.heap.size, 2, none⟩ = some (.int .i64 p1) := rj1.cell 2
      have j3 : W.cell? ⟨w1.heap.size, 3, none⟩ = some (.int .i64 p2) := rj1.cell 3
      have j4 : W.cell? ⟨w1.heap.size, 4, none⟩ = some (.int .i64 p3) := rj1.cell 4
      clear rj1
      clear HW
      go_wp2_with fail
      have fin := HK.out (.agg #[.int .i64 (n : Int), .int .i64 p0, .int .i64 p1, .int .i64 p2, .int .i64 p3]) W (Below.refl _ _) rfl
      simp only [putAll, Act.put, List.setIfInBounds_toArray, List.set_cons_succ, List.set_cons_zero] at fin
      exact fin
    · rintro vs W K hc hvl hw hK
      obtain ⟨x0, x1, x2, x3, x4, x5, x6, x7, x8, x9, rfl⟩ := len10 hvl
      have HK := Lib.hid hK
      have HC := Lib.hid hc
      have HW := Lib.hid hw
      clear hK hc hw hvl
      have hd5 := HW.out ⟨5, .data⟩ (by simp) rfl
      obtain rfl : x5 = .agg #[.int .i64 (n : Int), .int .i64 p0, .int .i64 p1, .int .i64 p2, .int .i64 p3] := rel_get hd5 rfl
      simp only [putAll, Act.put, List.setIfInBounds_toArray, List.set_cons_succ, List.set_cons_zero]
      clear HW hd5
      go_wp2_with fail
      have fin := HK.out (.func (.func 54) #[.agg #[.int .i64 (n : Int), .int .i64 p0, .int .i64 p1, .int .i64 p2, .int .i64 p3]] #[]) W (Below.refl _ _) rfl
      simp only [putAll, Act.put, List.setIfInBounds_toArray, List.set_cons_succ, List.set_cons_zero] at fin
      exact fin
    · rintro vs W K hc hvl hw hK
      obtain ⟨x0, x1, x2, x3, x4, x5, x6, x7, x8, x9, rfl⟩ := len10 hvl
      have HK := Lib.hid hK
      have HC := Lib.hid hc
      have HW := Lib.hid hw
      clear hK hc hw hvl
      have hd1 := HW.out ⟨1, .data⟩ (by simp) rfl
      obtain rfl : x1 = .agg #[.int .i64 f0, .int .i64 f1, .int .i64 f2, .int .i64 f3] := rel_get hd1 rfl
      have hd4 := HW.out ⟨4, .data⟩ (by simp) rfl
      have hr := rel_get (x := x4) hd4 rfl
      obtain ⟨bl, bj, rfl, hrl, hrj⟩ := hr
      have HRL := Lib.hid hrl
      have HRJ := Lib.hid hrj
      clear hrl hrj
      have hd6 := HW.out ⟨6, .data⟩ (by simp) rfl
      obtain rfl : x6 = .func (.func 54) #[.agg #[.int .i64 (n : Int), .int .i64 p0, .int .i64 p1, .int .i64 p2, .int .i64 p3]] #[] := rel_get hd6 rfl
      simp only [putAll, Act.put, List.setIfInBounds_toArray, List.set_cons_succ, List.set_cons_zero]
      clear HW hd1 hd4 hd6
      go_wp2_with fail
      refine (search_any f0 f1 f2 f3 glN 68 #[] n p0 p1 p2 p3 ls m hn HLS.out HM.out bl bj W HRL.out HRJ.out (enters_of Try.func68 (by kernel_rfl) rfl) (fun W2 x0 x1 x2 x3 _ _ => noGoal_any x0 x1 x2 x3 W2) HFIT.out 28562 (by omega) res HRES.out).mono ?_
      rintro e W' ⟨rfl, hs1, hb1⟩
      have HB' := Lib.hid hb1
      have HS1 := Lib.hid hs1
      clear hb1 hs1
      go_wp2_with fail
      have fin := HK.out (foundV (W.heap.size + 1 + 1 + 1 + 1) res) W' HB'.out ⟨_, rfl, HS1.out⟩
      simp only [putAll, Act.put, List.setIfInBounds_toArray, List.set_cons_succ, List.set_cons_zero] at fin
      exact fin
    · rintro vs W K hc hvl hw hK
      obtain ⟨x0, x1, x2, x3, x4, x5, x6, x7, x8, x9, rfl⟩ := len10 hvl
      have HK := Lib.hid hK
      have HC := Lib.hid hc
      have HW := Lib.hid hw
      clear hK hc hw hvl
      have hd7 := HW.out ⟨7, .data⟩ (by simp) rfl
      have hr := rel_get (x := x7) hd7 rfl
      obtain ⟨bf, rfl, hsn⟩ := hr
      have HSN := Lib.hid hsn
      clear hsn
      simp only [putAll, Act.put, List.setIfInBounds_toArray, List.set_cons_succ, List.set_cons_zero]
      clear HW hd7
      go_wp2_with fail
      rw [field89F, Result.andThen_ok]
      go_wp2_with fail
      have fin := HK.out (.map (some bf)) W (Below.refl _ _) ⟨bf, rfl, HSN.out⟩
      simp only [putAll, Act.put, List.setIfInBounds_toArray, List.set_cons_succ, List.set_cons_zero] at fin
      exact fin
    · rintro vs W K hc hvl hw hK
      obtain ⟨x0, x1, x2, x3, x4, x5, x6, x7, x8, x9, rfl⟩ := len10 hvl
      have HK := Lib.hid hK
      have HC := Lib.hid hc
      have HW := Lib.hid hw
      clear hK hc hw hvl
      have hd8 := HW.out ⟨8, .data⟩ (by simp) rfl
      have hr := rel_get (x := x8) hd8 rfl
      obtain ⟨bf, rfl, hsn⟩ := hr
      have HSN := Lib.hid hsn
      clear hsn
      simp only [putAll, Act.put, List.setIfInBounds_toArray, List.set_cons_succ, List.set_cons_zero]
      clear HW hd8
      go_wp2_with fail
      have fin := HK.out (.map (some bf)) W (Below.refl _ _) ⟨bf, rfl, HSN.out⟩
      simp only [putAll, Act.put, List.setIfInBounds_toArray, List.set_cons_succ, List.set_cons_zero] at fin
      exact fin
  case fin =>
    intro vs W hc hvl hv
    obtain ⟨x0, x1, x2, x3, x4, x5, x6, x7, x8, x9, rfl⟩ := len10 hvl
    have hd9 := hv 9 (by omega)
    have hr := rel_get (x := x9) hd9 rfl
    obtain ⟨bf, rfl, hsn⟩ := hr
    have HSN := Lib.hid hsn
    clear hsn
    clear hd9
    simp only [putAll, Act.put, List.setIfInBounds_toArray, List.set_cons_succ, List.set_cons_zero]
    have T := Lib.hid (Below.andThen B2.out hc (Nat.le_refl _))
    clear hv hc hvl
    go_wp2_with fail
    go_ret
    exact ⟨_, rfl, ⟨bf, rfl, HSN.out⟩, T.out⟩
end Go.Proofs.Ytlamppplnojpbaa
