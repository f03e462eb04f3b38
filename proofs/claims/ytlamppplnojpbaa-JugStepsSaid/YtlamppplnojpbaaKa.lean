import Derived.Test.YtlamppplnojpbaaJz
import Derived.Laws.AppendOwn
import Derived.ChangeKeysEq
import Derived.Maps.OwnIn
import Derived.Maps.AppendAt
import Derived.RangeFuncNested
import Derived.RangeFuncBound
import Derived.RangeFuncCalls
import Derived.RangeFuncLeaves
import Derived.Shelf.Abstract
import Derived.Shelf.RegionOpen
import Derived.WalkKit
import Derived.WalkMore
import Derived.OwnWalkIn
import Derived.TacticsInMore
import Derived.LoopNIn
import Derived.LoopIn
import Derived.WalkSpells
import Derived.WalkLawsBesides
import Derived.BigQuiet
import Derived.Deep.QuietTactic
import Derived.Lib.Hide
import Derived.Deep.RegionHeld3
import Derived.StillTailTactics
import Derived.Deep.LoopGhost
import Derived.Maps.OwnSet
import Derived.Lib.IndexAny
import Derived.Sort.QuietThIn
import Derived.Sort.QuietTacIn
import Derived.Sort.BigQuietIn
namespace Go.Proofs.Ytlamppplnojpbaa
open Go.RowKit Go.Shelf
attribute [local go_sem] Oper.semAt_some
theorem sls_two {w : World} {u1 u2 : Value} {fs gs : List Int} (h1 : SlI w u1 fs) (h2 : SlI w u2 gs) : SlS (w.alloc (.cells #[u1, u2] 22)) (.slice (some ⟨w.heap.size, 0, none⟩) 2 2) [fs, gs] := by
  have ba := (Below.refl w.heap.size w).alloc (Nat.le_refl _) (.cells #[u1, u2] 22)
  have r := Row.new w 22 [u1, u2]
  refine ⟨_, 2, rfl, Nat.le_refl _, .inr ⟨_, 0, rfl, r.lt, fun i hi => ?_⟩⟩
  match i, hi with
  | 0, _ => exact ⟨u1, r.cell 0, h1.grow ba⟩
  | 1, _ => exact ⟨u2, r.cell 1, h2.grow ba⟩
theorem sls_one {w : World} {u1 : Value} {fs : List Int} (h1 : SlI w u1 fs) : SlS (w.alloc (.cells #[u1] 22)) (.slice (some ⟨w.heap.size, 0, none⟩) 1 1) [fs] := by
  have ba := (Below.refl w.heap.size w).alloc (Nat.le_refl _) (.cells #[u1] 22)
  have r := Row.new w 22 [u1]
  refine ⟨_, 1, rfl, Nat.le_refl _, .inr ⟨_, 0, rfl, r.lt, fun i hi => ?_⟩⟩
  match i, hi with
  | 0, _ => exact ⟨u1, r.cell 0, h1.grow ba⟩
theorem check2 {w : World} {v u1 u2 : Value} {zs fs gs : List Int} (hv : SlI w v zs) (hl : zs.length ≤ 1000000) (h1 : SlI w u1 fs) (h2 : SlI w u2 gs) :
    Calls Try.prog 50 #[v, .slice (some ⟨w.heap.size, 0, none⟩) 2 2] (w.alloc (.cells #[u1, u2] 22)) fun e w' => e = .returned (.int .i64 (errA zs [fs, gs])) ∧ Below w.heap.size w w' := by
  have ba := (Below.refl w.heap.size w).alloc (Nat.le_refl _) (.cells #[u1, u2] 22)
  exact (checkAll_any zs [fs, gs] v _ _ (hv.grow ba) (sls_two h1 h2) hl (by simp)).mono fun e w' ⟨h1, h2⟩ => ⟨h1, Below.andThen ba h2 (Nat.le_refl _)⟩
theorem check1 {w : World} {v u1 : Value} {zs fs : List Int} (hv : SlI w v zs) (hl : zs.length ≤ 1000000) (h1 : SlI w u1 fs) :
    Calls Try.prog 50 #[v, .slice (some ⟨w.heap.size, 0, none⟩) 1 1] (w.alloc (.cells #[u1] 22)) fun e w' => e = .returned (.int .i64 (errA zs [fs])) ∧ Below w.heap.size w w' := by
  have ba := (Below.refl w.heap.size w).alloc (Nat.le_refl _) (.cells #[u1] 22)
  exact (checkAll_any zs [fs] v _ _ (hv.grow ba) (sls_one h1) hl (by simp)).mono fun e w' ⟨h1, h2⟩ => ⟨h1, Below.andThen ba h2 (Nat.le_refl _)⟩
theorem errA_ok {zs : List Int} {fss : List (List Int)} (h : errA zs fss = 0) : jugsB zs = true ∧ ∀ fs ∈ fss, fitsB zs fs = true := by
  unfold errA at h
  split at h
  · rename_i hj
    split at h
    · rename_i ha; exact ⟨hj, List.all_eq_true.1 ha⟩
    · cases h
  · cases h
theorem padF_getD (fs : List Int) (i : Nat) (hi : i < 4) : (padF fs).getD i 0 = fs.getD i 0 := by
  unfold padF
  rw [List.getD_eq_getElem?_getD, List.getElem?_take, if_pos hi, List.getD_eq_getElem?_getD]
  by_cases h : i < fs.length
  · rw [List.getElem?_append_left h]
  · rw [List.getElem?_append_right (by omega), List.getElem?_replicate, if_pos (by omega), List.getElem?_eq_none (by omega)]; rfl
theorem fits_pad {zs fs : List Int} (hj : jugsB zs = true) (hf : fitsB zs fs = true) : FitP (padF zs) (padF fs) ∧ fs.length = zs.length ∧ fs.length ≤ 4 := by
  have hjj := hj
  unfold jugsB at hj
  simp only [Bool.and_eq_true, decide_eq_true_eq, List.all_eq_true] at hj
  unfold fitsB at hf
  simp only [Bool.and_eq_true, decide_eq_true_eq, List.all_eq_true] at hf
  refine ⟨⟨padF_len fs, fun i hi => ?_⟩, hf.1, by omega⟩
  rw [padF_getD fs i hi, padF_getD zs i hi]
  by_cases h : i < fs.length
  · have h1 := hf.2 i (List.mem_range.2 h)
    have h2 : i < zs.length := by omega
    have h3 := hj.2 zs[i] (List.getElem_mem h2)
    unfold sizeB at h3
    simp only [Bool.and_eq_true, decide_eq_true_eq] at h3
    rw [getD_lt h2] at h1 ⊢
    omega
  · have e1 : fs.getD i 0 = 0 := by rw [List.getD_eq_getElem?_getD, List.getElem?_eq_none (by omega)]; rfl
    have e2 : zs.getD i 0 = 0 := by rw [List.getD_eq_getElem?_getD, List.getElem?_eq_none (by omega)]; rfl
    rw [e1, e2]; omega
set_option maxRecDepth 100000 in
set_option maxHeartbeats 400000 in
theorem Way_err (zs fs gs : List Int) (v u1 u2 : Value) (cl : Bool) (w : World) (hv : SlI w v zs) (hl : zs.length ≤ 1000000) (h1 : SlI w u1 fs) (h2 : SlI w u2 gs) (k : Int) (he : errA zs [fs, gs] = k) (hk : k ≠ 0) :
    Calls Try.prog 27 #[v, u1, u2, .bool cl] w fun e w' => e = .returned (.tuple #[.slice none 0 0, .bool false, .int .i64 k]) ∧ Below w.heap.size w w' := by
  have HC := Lib.hid (check2 hv hl h1 h2)
  rw [he] at HC
  have hd : (k != 0) = true := by simp; exact hk
  obtain ⟨a1, c1, e1⟩ : ∃ a1 c1, u1 = .slice a1 fs.length c1 := by obtain ⟨a, c, h, _⟩ := h1; exact ⟨a, c, h⟩
  obtain ⟨a2, c2, e2⟩ : ∃ a2 c2, u2 = .slice a2 gs.length c2 := by obtain ⟨a, c, h, _⟩ := h2; exact ⟨a, c, h⟩
  clear hv hl he h1 h2
  generalize fs.length = k1 at *
  generalize gs.length = k2 at *
  subst e1 e2
  go_enter Try.func27, Try.ntmps27
  go_wp2_with fail
  refine HC.out.mono ?_
  rintro e w1 ⟨rfl, hb⟩
  have HB := Lib.hid hb
  clear hb HC
  go_wp2_with fail
  refine bodyPost_ret (v := .tuple #[.slice none 0 0, .bool false, .int .i64 k]) (by simp [results, Try.results27, go_sem]) rfl ?_
  exact ⟨rfl, HB.out⟩
def glG (G : List Int) : List Int → Bool := fun F => decide (F = G)
theorem len15 {vs : List Value} (h : vs.length = 15) : ∃ x0 x1 x2 x3 x4 x5 x6 x7 x8 x9 x10 x11 x12 x13 x14, vs = [x0, x1, x2, x3, x4, x5, x6, x7, x8, x9, x10, x11, x12, x13, x14] := by
  obtain ⟨x0, r0, rfl, h0⟩ := len_cons h
  obtain ⟨x1, r1, rfl, h1⟩ := len_cons h0
  obtain ⟨x2, r2, rfl, h2⟩ := len_cons h1
  obtain ⟨x3, r3, rfl, h3⟩ := len_cons h2
  obtain ⟨x4, r4, rfl, h4⟩ := len_cons h3
  obtain ⟨x5, r5, rfl, h5⟩ := len_cons h4
  obtain ⟨x6, r6, rfl, h6⟩ := len_cons h5
  obtain ⟨x7, r7, rfl, h7⟩ := len_cons h6
  obtain ⟨x8, r8, rfl, h8⟩ := len_cons h7
  obtain ⟨x9, r9, rfl, h9⟩ := len_cons h8
  obtain ⟨x10, r10, rfl, h10⟩ := len_cons h9
  obtain ⟨x11, r11, rfl, h11⟩ := len_cons h10
  obtain ⟨x12, r12, rfl, h12⟩ := len_cons h11
  obtain ⟨x13, r13, rfl, h13⟩ := len_cons h12
  obtain ⟨x14, r14, rfl, h14⟩ := len_cons h13
  obtain rfl := List.eq_nil_of_length_eq_zero h14
  exact ⟨_, _, _, _, _, _, _, _, _, _, _, _, _, _, _, rfl⟩
set_option maxRecDepth 100000 in
set_option maxHeartbeats 4000000 in
theorem Way_ok (zs fs gs : List Int) (v u1 u2 : Value) (cl : Bool) (w : World) (hv : SlI w v zs) (hl : zs.length ≤ 1000000) (h1 : SlI w u1 fs) (h2 : SlI w u2 gs) (he : errA zs [fs, gs] = 0) (res : Sn × Option (List Int)) (hres : srch (padF zs) (glG (padF gs)) (ssF cl zs.length) 28562 (padF fs) = some res) :
    Calls Try.prog 27 #[v, u1, u2, .bool cl] w fun e w' => ∃ s, e = .returned (.tuple #[s, .bool res.2.isSome, .int .i64 0]) ∧ OwnP w' w.heap.size s (wayF res) ∧ Below w.heap.size w w' := by
  obtain ⟨hj, hfits⟩ := errA_ok he
  obtain ⟨hfit, hd1, hfl⟩ := fits_pad hj (hfits fs (by simp))
  obtain ⟨hfit2, hd2, hgl⟩ := fits_pad hj (hfits gs (by simp))
  have HC := Lib.hid (check2 hv hl h1 h2)
  rw [he] at HC
  obtain ⟨hz1, hz4, p0, p1, p2, p3, hp, hjv, b0, b1, b2, b3⟩ := jugs_open hj
  obtain ⟨f0, f1, f2, f3, hf⟩ := agg4 (padF fs) (padF_len fs)
  obtain ⟨g0, g1, g2, g3, hg⟩ := agg4 (padF gs) (padF_len gs)
  rw [hp, hf, hg] at hres
  rw [hp, hf] at hfit
  obtain ⟨n, hn0⟩ : ∃ n, zs.length = n := ⟨_, rfl⟩
  rw [hn0] at hres hjv
  have hn : n ≤ 4 := by omega
  unfold ssF at hres
  have hst := stepsV_any (n : Int) p0 p1 p2 p3 cl
  rw [show (if cl = true then (0 : Int) else -1) = lsF cl from rfl] at hst
  have HST := Lib.hid hst
  have HLS := Lib.hid (lsF_ok cl)
  have HM := Lib.hid (mF_ok cl n)
  have htr := srch_tree _ _ (lsF cl) (mF cl n) HLS.out (by have := HM.out; omega) _ hfit _ res hres
  have hfd := fun b W hs => found_any res htr.1 (fun g hg => (htr.2.2 g hg).1) b W hs
  generalize res.2.isSome = ok at *
  generalize wayF res = way at *
  have HFD := Lib.hid hfd
  generalize lsF cl = ls at *
  generalize mF cl n = m at *
  have HFIT := Lib.hid hfit
  have HRES := Lib.hid hres
  have HJ0 := Lib.hid (fun (W : World) (hb : Below w.heap.size w W) => jugsOf_any zs v W (hv.grow hb) hz4)
  have HF0 := Lib.hid (fun (W : World) (hb : Below w.heap.size w W) => fillingOf_any fs u1 W (h1.grow hb) hfl)
  have HG0 := Lib.hid (fun (W : World) (hb : Below w.heap.size w W) => fillingOf_any gs u2 W (h2.grow hb) hgl)
  rw [hjv] at HJ0
  rw [hf] at HF0
  rw [hg] at HG0
  simp only [aggI, List.map_cons, List.map_nil, encI] at HF0 HG0
  obtain ⟨a1, c1, e1⟩ : ∃ a1 c1, u1 = .slice a1 fs.length c1 := by obtain ⟨a, c, h, _⟩ := h1; exact ⟨a, c, h⟩
  obtain ⟨a2, c2, e2⟩ : ∃ a2 c2, u2 = .slice a2 gs.length c2 := by obtain ⟨a, c, h, _⟩ := h2; exact ⟨a, c, h⟩
  clear hp hj hjv b0 b1 b2 b3 h1 h2 hz1 hz4 hn0 hst hfit hfit2 hres hv hfd htr hfits hfl hgl hf hg he hl hd1 hd2
  generalize fs.length = k1 at *
  generalize gs.length = k2 at *
  subst e1 e2
  go_enter Try.func27, Try.ntmps27
  go_wp2_with fail
  refine HC.out.mono ?_
  rintro e w1 ⟨rfl, hb⟩
  have HB1 := Lib.hid hb
  clear hb HC
  go_wp2_with fail
  refine (HJ0.out w1 HB1.out).mono ?_
  rintro e w2 ⟨rfl, hb⟩
  have HB2 := Lib.hid (Below.andThen HB1.out hb (Nat.le_refl _))
  clear hb HJ0
  go_wp2_with fail
  refine (HG0.out w2 HB2.out).mono ?_
  rintro e w3 ⟨rfl, hb⟩
  have hB3 := Below.andThen HB2.out hb (Nat.le_refl _)
  clear hb HG0
  have bj := (Below.refl w3.heap.size w3).alloc (Nat.le_refl _) (.cells #[.int .i64 (n : Int), .int .i64 p0, .int .i64 p1, .int .i64 p2, .int .i64 p3] 80)
  have zj := size_al w3 (.cells #[.int .i64 (n : Int), .int .i64 p0, .int .i64 p1, .int .i64 p2, .int .i64 p3] 80)
  have rj := Row.new w3 80 [.int .i64 (n : Int), .int .i64 p0, .int .i64 p1, .int .i64 p2, .int .i64 p3]
  have bg := (Below.refl (w3.alloc (.cells #[.int .i64 (n : Int), .int .i64 p0, .int .i64 p1, .int .i64 p2, .int .i64 p3] 80)).heap.size (w3.alloc (.cells #[.int .i64 (n : Int), .int .i64 p0, .int .i64 p1, .int .i64 p2, .int .i64 p3] 80))).alloc (Nat.le_refl _) (.cells #[.int .i64 g0, .int .i64 g1, .int .i64 g2, .int .i64 g3] 77)
  have rg := Row.new (w3.alloc (.cells #[.int .i64 (n : Int), .int .i64 p0, .int .i64 p1, .int .i64 p2, .int .i64 p3] 80)) 77 [.int .i64 g0, .int .i64 g1, .int .i64 g2, .int .i64 g3]
  rw [zj] at rg
  have RJ := Lib.hid (rj.below bg rj.lt)
  have RG := Lib.hid rg
  have hB4 := Below.andThen (Below.andThen hB3 bj (Nat.le_refl _)) bg (Nat.le_refl _)
  have B2 := Lib.hid hB4
  have HN0 := Lib.hid hB4.size
  have HF := Lib.hid (fun (W : World) (hb : Below ((w3.alloc (.cells #[.int .i64 (n : Int), .int .i64 p0, .int .i64 p1, .int .i64 p2, .int .i64 p3] 80)).alloc (.cells #[.int .i64 g0, .int .i64 g1, .int .i64 g2, .int .i64 g3] 77)).heap.size ((w3.alloc (.cells #[.int .i64 (n : Int), .int .i64 p0, .int .i64 p1, .int .i64 p2, .int .i64 p3] 80)).alloc (.cells #[.int .i64 g0, .int .i64 g1, .int .i64 g2, .int .i64 g3] 77)) W) => HF0.out W (Below.andThen hB4 hb (Nat.le_refl _)))
  have HAG := Lib.hid (fun (W2 : World) x0 x1 x2 x3 (hb2 : Below ((w3.alloc (.cells #[.int .i64 (n : Int), .int .i64 p0, .int .i64 p1, .int .i64 p2, .int .i64 p3] 80)).alloc (.cells #[.int .i64 g0, .int .i64 g1, .int .i64 g2, .int .i64 g3] 77)).heap.size ((w3.alloc (.cells #[.int .i64 (n : Int), .int .i64 p0, .int .i64 p1, .int .i64 p2, .int .i64 p3] 80)).alloc (.cells #[.int .i64 g0, .int .i64 g1, .int .i64 g2, .int .i64 g3] 77)) W2) => wayGoal_any g0 g1 g2 g3 x0 x1 x2 x3 (w3.heap.size + 1) W2 (RG.out.below hb2 RG.out.lt))
  clear hB3 bj zj rj bg rg hB4 HF0
  go_wp2_with fail
  refine wp_region_rel (by kernel_rfl) (by kernel_rfl) [29, 30, 31, 32, 33, 34, 35, 36, 37, 38, 28, 39, 40, 14, 15] [LitR (.slice a1 k1 c1), LitR (.agg #[.int .i64 f0, .int .i64 f1, .int .i64 f2, .int .i64 f3]), LitR (.agg #[.int .i64 (n : Int), .int .i64 p0, .int .i64 p1, .int .i64 p2, .int .i64 p3]), LitR (.bool cl), (StepsV (n : Int) p0 p1 p2 p3 ls), LitR (.agg #[.int .i64 (n : Int), .int .i64 p0, .int .i64 p1, .int .i64 p2, .int .i64 p3]), LitR (.func (.func 54) #[.agg #[.int .i64 (n : Int), .int .i64 p0, .int .i64 p1, .int .i64 p2, .int .i64 p3]] #[]), LitR (.func (.func 58) #[] #[.pointer (some ⟨w3.heap.size + 1, 0, none⟩)]), (FoundV res), (WayV w.heap.size way ok), (WayV w.heap.size way ok), (LstV w.heap.size way), LitR (.bool ok), (LstV w.heap.size way), LitR (.bool ok)] 15 rfl (List.forall_mem_cons.2 ⟨LitR.stab _, (List.forall_mem_cons.2 ⟨LitR.stab _, (List.forall_mem_cons.2 ⟨LitR.stab _, (List.forall_mem_cons.2 ⟨LitR.stab _, (List.forall_mem_cons.2 ⟨StepsV.stab _ _ _ _ _ _, (List.forall_mem_cons.2 ⟨LitR.stab _, (List.forall_mem_cons.2 ⟨LitR.stab _, (List.forall_mem_cons.2 ⟨LitR.stab _, (List.forall_mem_cons.2 ⟨FoundV.stab _, (List.forall_mem_cons.2 ⟨WayV.stab _ _ _, (List.forall_mem_cons.2 ⟨WayV.stab _ _ _, (List.forall_mem_cons.2 ⟨LstV.stab _ _, (List.forall_mem_cons.2 ⟨LitR.stab _, (List.forall_mem_cons.2 ⟨LstV.stab _ _, (List.forall_mem_cons.2 ⟨LitR.stab _, (fun _ h => nomatch h)⟩)⟩)⟩)⟩)⟩)⟩)⟩)⟩)⟩)⟩)⟩)⟩)⟩)⟩)⟩) ⟨[undef, undef, undef, undef, undef, undef, undef, undef, undef, undef, undef, undef, undef, undef, undef], by simp only [putAll, Act.put, List.setIfInBounds_toArray, List.set_cons_succ, List.set_cons_zero], rfl⟩ ?steps ?fin
  case steps =>
    simp only [relSteps]
    refine ⟨?_, ?_, ?_, ?_, ?_, ?_, ?_, ?_, ?_, ?_, ?_, ?_, ?_, ?_, ?_, trivial⟩
    · rintro vs W K hc hvl hw hK
      obtain ⟨x0, x1, x2, x3, x4, x5, x6, x7, x8, x9, x10, x11, x12, x13, x14, rfl⟩ := len15 hvl
      have HK := Lib.hid hK
      have HC := Lib.hid hc
      have HW := Lib.hid hw
      clear hK hc hw hvl
      simp only [putAll, Act.put, List.setIfInBounds_toArray, List.set_cons_succ, List.set_cons_zero]
      clear HW
      go_wp2_with fail
      have fin := HK.out (.slice a1 k1 c1) W (Below.refl _ _) rfl
      simp only [putAll, Act.put, List.setIfInBounds_toArray, List.set_cons_succ, List.set_cons_zero] at fin
      exact fin
    · rintro vs W K hc hvl hw hK
      obtain ⟨x0, x1, x2, x3, x4, x5, x6, x7, x8, x9, x10, x11, x12, x13, x14, rfl⟩ := len15 hvl
      have HK := Lib.hid hK
      have HC := Lib.hid hc
      have HW := Lib.hid hw
      clear hK hc hw hvl
      have hd0 := HW.out ⟨0, .data⟩ (by simp) rfl
      obtain rfl : x0 = .slice a1 k1 c1 := rel_get hd0 rfl
      simp only [putAll, Act.put, List.setIfInBounds_toArray, List.set_cons_succ, List.set_cons_zero]
      clear HW hd0
      go_wp2_with fail
      refine (HF.out W HC.out).mono ?_
      rintro e W' ⟨rfl, hb'⟩
      have HB' := Lib.hid hb'
      clear hb'
      go_wp2_with fail
      have fin := HK.out (.agg #[.int .i64 f0, .int .i64 f1, .int .i64 f2, .int .i64 f3]) W' HB'.out rfl
      simp only [putAll, Act.put, List.setIfInBounds_toArray, List.set_cons_succ, List.set_cons_zero] at fin
      exact fin
    · rintro vs W K hc hvl hw hK
      obtain ⟨x0, x1, x2, x3, x4, x5, x6, x7, x8, x9, x10, x11, x12, x13, x14, rfl⟩ := len15 hvl
      have HK := Lib.hid hK
      have HC := Lib.hid hc
      have HW := Lib.hid hw
      clear hK hc hw hvl
      simp only [putAll, Act.put, List.setIfInBounds_toArray, List.set_cons_succ, List.set_cons_zero]
      have rj1 := RJ.out.below HC.out RJ.out.lt
      have j0 : W.cell? ⟨w3.heap.size, 0, none⟩ = some (.int .i64 (n : Int)) := rj1.cell 0
      have j1 : W.cell? ⟨w3.heap.size, 1, none⟩ = some (.int .i64 p0) := rj1.cell 1
      have j2 : W.cell? ⟨w3.heap.size, 2, none⟩ = some (.int .i64 p1) := rj1.cell 2
      have j3 : W.cell? ⟨w3.heap.size, 3, none⟩ = some (.int .i64 p2) := rj1.cell 3
      have j4 : W.cell? ⟨w3.heap.size, 4, none⟩ = some (.int .i64 p3) := rj1.cell 4
      clear rj1
      clear HW
      go_wp2_with fail
      have fin := HK.out (.agg #[.int .i64 (n : Int), .int .i64 p0, .int .i64 p1, .int .i64 p2, .int .i64 p3]) W (Below.refl _ _) rfl
      simp only [putAll, Act.put, List.setIfInBounds_toArray, List.set_cons_succ, List.set_cons_zero] at fin
      exact fin
    · rintro vs W K hc hvl hw hK
      obtain ⟨x0, x1, x2, x3, x4, x5, x6, x7, x8, x9, x10, x11, x12, x13, x14, rfl⟩ := len15 hvl
      have HK := Lib.hid hK
      have HC := Lib.hid hc
      have HW := Lib.hid hw
      clear hK hc hw hvl
      simp only [putAll, Act.put, List.setIfInBounds_toArray, List.set_cons_succ, List.set_cons_zero]
      clear HW
      go_wp2_with fail
      have fin := HK.out (.bool cl) W (Below.refl _ _) rfl
      simp only [putAll, Act.put, List.setIfInBounds_toArray, List.set_cons_succ, List.set_cons_zero] at fin
      exact fin
    · rintro vs W K hc hvl hw hK
      obtain ⟨x0, x1, x2, x3, x4, x5, x6, x7, x8, x9, x10, x11, x12, x13, x14, rfl⟩ := len15 hvl
      have HK := Lib.hid hK
      have HC := Lib.hid hc
      have HW := Lib.hid hw
      clear hK hc hw hvl
      have hd2 := HW.out ⟨2, .data⟩ (by simp) rfl
      obtain rfl : x2 = .agg #[.int .i64 (n : Int), .int .i64 p0, .int .i64 p1, .int .i64 p2, .int .i64 p3] := rel_get hd2 rfl
      have hd3 := HW.out ⟨3, .data⟩ (by simp) rfl
      obtain rfl : x3 = .bool cl := rel_get hd3 rfl
      simp only [putAll, Act.put, List.setIfInBounds_toArray, List.set_cons_succ, List.set_cons_zero]
      clear HW hd2 hd3
      go_wp2_with fail
      refine (HST.out W).mono ?_
      rintro e W' ⟨x, rfl, hst1, hb1⟩
      have HB' := Lib.hid hb1
      have HB2 := Lib.hid hst1
      clear hb1 hst1
      go_wp2_with fail
      have fin := HK.out (x) W' HB'.out HB2.out
      simp only [putAll, Act.put, List.setIfInBounds_toArray, List.set_cons_succ, List.set_cons_zero] at fin
      exact fin
    · rintro vs W K hc hvl hw hK
      obtain ⟨x0, x1, x2, x3, x4, x5, x6, x7, x8, x9, x10, x11, x12, x13, x14, rfl⟩ := len15 hvl
      have HK := Lib.hid hK
      have HC := Lib.hid hc
      have HW := Lib.hid hw
      clear hK hc hw hvl
      simp only [putAll, Act.put, List.setIfInBounds_toArray, List.set_cons_succ, List.set_cons_zero]
      have rj1 := RJ.out.below HC.out RJ.out.lt
      have j0 : W.cell? ⟨w3.heap.size, 0, none⟩ = some (.int .i64 (n : Int)) := rj1.cell 0
      have j1 : W.cell? ⟨w3.heap.size, 1, none⟩ = some (.int .i64 p0) := rj1.cell 1
      have j2 : W.cell? ⟨w3.heap.size, 2, none⟩ = some (.int .i64 p1) := rj1.cell 2
      have j3 : W.cell? ⟨w3.heap.size, 3, none⟩ = some (.int .i64 p2) := rj1.cell 3
      have j4 : W.cell? ⟨w3.heap.size, 4, none⟩ = some (.int .i64 p3) := rj1.cell 4
      clear rj1
      clear HW
      go_wp2_with fail
      have fin := HK.out (.agg #[.int .i64 (n : Int), .int .i64 p0, .int .i64 p1, .int .i64 p2, .int .i64 p3]) W (Below.refl _ _) rfl
      simp only [putAll, Act.put, List.setIfInBounds_toArray, List.set_cons_succ, List.set_cons_zero] at fin
      exact fin
    · rintro vs W K hc hvl hw hK
      obtain ⟨x0, x1, x2, x3, x4, x5, x6, x7, x8, x9, x10, x11, x12, x13, x14, rfl⟩ := len15 hvl
      have HK := Lib.hid hK
      have HC := Lib.hid hc
      have HW := Lib.hid hw
      clear hK hc hw hvl
      have hd5 := HW.out ⟨5, .data⟩ (by simp) rfl
      obtain rfl : x5 = .agg #[.int .i64 (n : Int), .int .i64 p0, .int .i64 p1, .int .i64 p2, .int .i64 p3] := rel_get hd5 rfl
      simp only [putAll, Act.put, List.setIfInBounds_toArray, List.set_cons_succ, List.set_cons_zero]
      clear HW hd5
      go_wp2_with fail
      have fin := HK.out (.func (.func 54) #[.agg #[.int .i64 (n : Int), .int .i64 p0, .int .i64 p1, .int .i64 p2, .int .i64 p3]] #[]) W (Below.refl _ _) rfl
      simp only [putAll, Act.put, List.setIfInBounds_toArray, List.set_cons_succ, List.set_cons_zero] at fin
      exact fin
    · rintro vs W K hc hvl hw hK
      obtain ⟨x0, x1, x2, x3, x4, x5, x6, x7, x8, x9, x10, x11, x12, x13, x14, rfl⟩ := len15 hvl
      have HK := Lib.hid hK
      have HC := Lib.hid hc
      have HW := Lib.hid hw
      clear hK hc hw hvl
      simp only [putAll, Act.put, List.setIfInBounds_toArray, List.set_cons_succ, List.set_cons_zero]
      clear HW
      go_wp2_with fail
      have fin := HK.out (.func (.func 58) #[] #[.pointer (some ⟨w3.heap.size + 1, 0, none⟩)]) W (Below.refl _ _) rfl
      simp only [putAll, Act.put, List.setIfInBounds_toArray, List.set_cons_succ, List.set_cons_zero] at fin
      exact fin
    · rintro vs W K hc hvl hw hK
      obtain ⟨x0, x1, x2, x3, x4, x5, x6, x7, x8, x9, x10, x11, x12, x13, x14, rfl⟩ := len15 hvl
      have HK := Lib.hid hK
      have HC := Lib.hid hc
      have HW := Lib.hid hw
      clear hK hc hw hvl
      have hd1 := HW.out ⟨1, .data⟩ (by simp) rfl
      obtain rfl : x1 = .agg #[.int .i64 f0, .int .i64 f1, .int .i64 f2, .int .i64 f3] := rel_get hd1 rfl
      have hd4 := HW.out ⟨4, .data⟩ (by simp) rfl
      have hr := rel_get (x := x4) hd4 rfl
      obtain ⟨bl, bj, rfl, hrl, hrj⟩ := hr
      have HRL := Lib.hid hrl
      have HRJ := Lib.hid hrj
      clear hrl hrj
      have hd6 := HW.out ⟨6, .data⟩ (by simp) rfl
      obtain rfl : x6 = .func (.func 54) #[.agg #[.int .i64 (n : Int), .int .i64 p0, .int .i64 p1, .int .i64 p2, .int .i64 p3]] #[] := rel_get hd6 rfl
      have hd7 := HW.out ⟨7, .data⟩ (by simp) rfl
      obtain rfl : x7 = .func (.func 58) #[] #[.pointer (some ⟨w3.heap.size + 1, 0, none⟩)] := rel_get hd7 rfl
      simp only [putAll, Act.put, List.setIfInBounds_toArray, List.set_cons_succ, List.set_cons_zero]
      clear HW hd1 hd4 hd6 hd7
      go_wp2_with fail
      refine (search_any f0 f1 f2 f3 (glG [g0, g1, g2, g3]) 58 #[.pointer (some ⟨w3.heap.size + 1, 0, none⟩)] n p0 p1 p2 p3 ls m hn HLS.out HM.out bl bj W HRL.out HRJ.out (enters_of Try.func58 (by kernel_rfl) rfl) (fun W2 x0 x1 x2 x3 hb2 _ => HAG.out W2 x0 x1 x2 x3 (Below.andThen HC.out hb2 (Nat.le_refl _))) HFIT.out 28562 (by omega) res HRES.out).mono ?_
      rintro e W' ⟨rfl, hs1, hb1⟩
      have HB' := Lib.hid hb1
      have HS1 := Lib.hid hs1
      clear hb1 hs1
      go_wp2_with fail
      have fin := HK.out (foundV (W.heap.size + 1 + 1 + 1 + 1) res) W' HB'.out ⟨_, rfl, HS1.out⟩
      simp only [putAll, Act.put, List.setIfInBounds_toArray, List.set_cons_succ, List.set_cons_zero] at fin
      exact fin
    · rintro vs W K hc hvl hw hK
      obtain ⟨x0, x1, x2, x3, x4, x5, x6, x7, x8, x9, x10, x11, x12, x13, x14, rfl⟩ := len15 hvl
      have HK := Lib.hid hK
      have HC := Lib.hid hc
      have HW := Lib.hid hw
      clear hK hc hw hvl
      have hd8 := HW.out ⟨8, .data⟩ (by simp) rfl
      have hr := rel_get (x := x8) hd8 rfl
      obtain ⟨bf, rfl, hsn⟩ := hr
      have HSN := Lib.hid hsn
      clear hsn
      simp only [putAll, Act.put, List.setIfInBounds_toArray, List.set_cons_succ, List.set_cons_zero]
      clear HW hd8
      go_wp2_with fail
      refine (HFD.out bf W HSN.out).mono ?_
      rintro e W' ⟨x, rfl, hw1, hb1⟩
      have HB' := Lib.hid hb1
      have HW1 := Lib.hid (WayV.mono hw1 (Nat.le_trans HN0.out HC.out.size))
      clear hb1 hw1
      go_wp2_with fail
      have fin := HK.out (x) W' HB'.out HW1.out
      simp only [putAll, Act.put, List.setIfInBounds_toArray, List.set_cons_succ, List.set_cons_zero] at fin
      exact fin
    · rintro vs W K hc hvl hw hK
      obtain ⟨x0, x1, x2, x3, x4, x5, x6, x7, x8, x9, x10, x11, x12, x13, x14, rfl⟩ := len15 hvl
      have HK := Lib.hid hK
      have HC := Lib.hid hc
      have HW := Lib.hid hw
      clear hK hc hw hvl
      have hd9 := HW.out ⟨9, .data⟩ (by simp) rfl
      have hr := rel_get (x := x9) hd9 rfl
      obtain ⟨s, rfl, ho⟩ := hr
      have HO := Lib.hid ho
      clear ho
      simp only [putAll, Act.put, List.setIfInBounds_toArray, List.set_cons_succ, List.set_cons_zero]
      clear HW hd9
      go_wp2_with fail
      have fin := HK.out (.tuple #[s, .bool ok]) W (Below.refl _ _) ⟨s, rfl, HO.out⟩
      simp only [putAll, Act.put, List.setIfInBounds_toArray, List.set_cons_succ, List.set_cons_zero] at fin
      exact fin
    · rintro vs W K hc hvl hw hK
      obtain ⟨x0, x1, x2, x3, x4, x5, x6, x7, x8, x9, x10, x11, x12, x13, x14, rfl⟩ := len15 hvl
      have HK := Lib.hid hK
      have HC := Lib.hid hc
      have HW := Lib.hid hw
      clear hK hc hw hvl
      have hd10 := HW.out ⟨10, .data⟩ (by simp) rfl
      have hr := rel_get (x := x10) hd10 rfl
      obtain ⟨s, rfl, ho⟩ := hr
      have HO := Lib.hid ho
      clear ho
      simp only [putAll, Act.put, List.setIfInBounds_toArray, List.set_cons_succ, List.set_cons_zero]
      clear HW hd10
      go_wp2_with fail
      have fin := HK.out (s) W (Below.refl _ _) HO.out
      simp only [putAll, Act.put, List.setIfInBounds_toArray, List.set_cons_succ, List.set_cons_zero] at fin
      exact fin
    · rintro vs W K hc hvl hw hK
      obtain ⟨x0, x1, x2, x3, x4, x5, x6, x7, x8, x9, x10, x11, x12, x13, x14, rfl⟩ := len15 hvl
      have HK := Lib.hid hK
      have HC := Lib.hid hc
      have HW := Lib.hid hw
      clear hK hc hw hvl
      have hd10 := HW.out ⟨10, .data⟩ (by simp) rfl
      have hr := rel_get (x := x10) hd10 rfl
      obtain ⟨s, rfl, ho⟩ := hr
      have HO := Lib.hid ho
      clear ho
      simp only [putAll, Act.put, List.setIfInBounds_toArray, List.set_cons_succ, List.set_cons_zero]
      clear HW hd10
      go_wp2_with fail
      have fin := HK.out (.bool ok) W (Below.refl _ _) rfl
      simp only [putAll, Act.put, List.setIfInBounds_toArray, List.set_cons_succ, List.set_cons_zero] at fin
      exact fin
    · rintro vs W K hc hvl hw hK
      obtain ⟨x0, x1, x2, x3, x4, x5, x6, x7, x8, x9, x10, x11, x12, x13, x14, rfl⟩ := len15 hvl
      have HK := Lib.hid hK
      have HC := Lib.hid hc
      have HW := Lib.hid hw
      clear hK hc hw hvl
      have hd11 := HW.out ⟨11, .data⟩ (by simp) rfl
      have hr := rel_get (x := x11) hd11 rfl
      have HO := Lib.hid (show OwnP W w.heap.size x11 way from hr)
      simp only [putAll, Act.put, List.setIfInBounds_toArray, List.set_cons_succ, List.set_cons_zero]
      clear HW hd11
      go_wp2_with fail
      have fin := HK.out (x11) W (Below.refl _ _) HO.out
      simp only [putAll, Act.put, List.setIfInBounds_toArray, List.set_cons_succ, List.set_cons_zero] at fin
      exact fin
    · rintro vs W K hc hvl hw hK
      obtain ⟨x0, x1, x2, x3, x4, x5, x6, x7, x8, x9, x10, x11, x12, x13, x14, rfl⟩ := len15 hvl
      have HK := Lib.hid hK
      have HC := Lib.hid hc
      have HW := Lib.hid hw
      clear hK hc hw hvl
      have hd12 := HW.out ⟨12, .data⟩ (by simp) rfl
      obtain rfl : x12 = .bool ok := rel_get hd12 rfl
      simp only [putAll, Act.put, List.setIfInBounds_toArray, List.set_cons_succ, List.set_cons_zero]
      clear HW hd12
      go_wp2_with fail
      have fin := HK.out (.bool ok) W (Below.refl _ _) rfl
      simp only [putAll, Act.put, List.setIfInBounds_toArray, List.set_cons_succ, List.set_cons_zero] at fin
      exact fin
  case fin =>
    intro vs W hc hvl hv
    obtain ⟨x0, x1, x2, x3, x4, x5, x6, x7, x8, x9, x10, x11, x12, x13, x14, rfl⟩ := len15 hvl
    have hd13 := hv 13 (by omega)
    have hr := rel_get (x := x13) hd13 rfl
    have HO := Lib.hid (show OwnP W w.heap.size x13 way from hr)
    clear hd13
    have hd14 := hv 14 (by omega)
    obtain rfl : x14 = .bool ok := rel_get hd14 rfl
    clear hd14
    simp only [putAll, Act.put, List.setIfInBounds_toArray, List.set_cons_succ, List.set_cons_zero]
    have T := Lib.hid (Below.andThen B2.out hc (Nat.le_refl _))
    clear hv hc hvl
    go_wp2_with fail
    refine bodyPost_ret (v := .tuple #[x13, .bool ok, .int .i64 0]) (by simp [results, Try.results27, go_sem]) rfl ?_
    exact ⟨x13, rfl, HO.out, T.out⟩
end Go.Proofs.Ytlamppplnojpbaa
