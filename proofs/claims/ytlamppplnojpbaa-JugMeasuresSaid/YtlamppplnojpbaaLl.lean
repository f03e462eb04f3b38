import Derived.Test.YtlamppplnojpbaaLi
import Derived.Laws.AppendOwn
import Derived.ChangeKeysEq
import Derived.Maps.RangeWalk
import Derived.Maps.OwnIn
import Derived.Maps.AppendAt
import Derived.RangeFuncNested
import Derived.RangeFuncBound
import Derived.RangeFuncCalls
import Derived.RangeFuncLeaves
import Derived.Shelf.Abstract
import Derived.Shelf.RegionOpen
import Derived.WalkKit
import Derived.WalkMore
import Derived.OwnWalkIn
import Derived.TacticsInMore
import Derived.LoopNIn
import Derived.LoopIn
import Derived.WalkSpells
import Derived.WalkLawsBesides
import Derived.BigQuiet
import Derived.Deep.QuietTactic
import Derived.Lib.Hide
import Derived.Deep.RegionHeld3
import Derived.StillTailTactics
import Derived.Deep.LoopGhost
import Derived.Maps.OwnSet
import Derived.Lib.IndexAny
import Derived.Sort.QuietThIn
import Derived.Sort.QuietTacIn
import Derived.Sort.BigQuietIn
import Derived.Laws.OwnMore
namespace Go.Proofs.Ytlamppplnojpbaa
open Go.RowKit Go.Shelf
attribute [local go_sem] Oper.semAt_some
/-- v is a slice of pairs -/
def SlP (w : World) (v : Value) (ps : List Pt) : Prop := ∃ a c, v = .slice a ps.length c ∧ ps.length ≤ c ∧ (ps = [] ∨ ∃ g o, a = some ⟨g, o, none⟩ ∧ PtsAt w g o ps)
theorem SlP.grow {w w' : World} {v : Value} {ps : List Pt} (h : SlP w v ps) (hb : Below w.heap.size w w') : SlP w' v ps := by
  obtain ⟨a, c, rfl, hc, h⟩ := h
  exact ⟨a, c, rfl, hc, h.imp id (fun ⟨g, o, h1, h2⟩ => ⟨g, o, h1, h2.grow hb⟩)⟩
theorem slp_own {W : World} {n₀ : Nat} {v : Value} {ps : List Pt} (ho : OwnP W n₀ v ps) : SlP W v ps := by
  obtain ⟨a, c, rfl, h⟩ := OwnP.open ho
  clear ho
  rcases h with ⟨_, rfl, rfl⟩ | ⟨g, _, rfl, h, hc⟩
  · exact ⟨a, 0, rfl, Nat.le_refl _, .inl rfl⟩
  · exact ⟨_, c, rfl, hc, .inr ⟨g, 0, rfl, h⟩⟩
/-! steps one after the other -/
def okP (n : Int) (p : Pt) : Bool := stepB n p.1 p.2
theorem okP_iff {n : Int} {p : Pt} : okP n p = true ↔ p.1 ≠ p.2 ∧ (-1 ≤ p.1 ∧ p.1 < n) ∧ (-1 ≤ p.2 ∧ p.2 < n) := by
  unfold okP stepB
  simp only [Bool.and_eq_true, decide_eq_true_eq]
  omega
theorem takeW_at {q : Pt → Bool} : ∀ {ps : List Pt} {k : Nat} (h : k < ps.length), (∀ p ∈ ps.take k, q p = true) → q ps[k] = false → ps.takeWhile q = ps.take k
  | [], k, h, _, _ => by simp at h
  | x :: xs, 0, h, _, hq => by
    rw [List.takeWhile_cons]
    simp only [List.getElem_cons_zero] at hq
    simp [hq]
  | x :: xs, k + 1, h, ha, hq => by
    rw [List.takeWhile_cons, List.take_succ_cons]
    have hx : q x = true := ha x (by simp)
    simp only [List.getElem_cons_succ] at hq
    simp only [hx, if_true]
    rw [takeW_at (by simpa using h) (fun p hp => ha p (by rw [List.take_succ_cons]; exact List.mem_cons_of_mem _ hp)) hq]
theorem takeW_all {q : Pt → Bool} {ps : List Pt} (h : ∀ p ∈ ps, q p = true) : ps.takeWhile q = ps := by
  induction ps with
  | nil => rfl
  | cons x xs ih =>
    rw [List.takeWhile_cons]
    simp only [h x (by simp), if_true]
    rw [ih (fun p hp => h p (List.mem_cons_of_mem _ hp))]
theorem goF_snoc (P F : List Int) (xs : List Pt) (p : Pt) : goF P F (xs ++ [p]) = afterF P (goF P F xs) p.1 p.2 := by rw [goF_app]; rfl
theorem goF_len (P : List Int) : ∀ (xs : List Pt) (F : List Int), (goF P F xs).length = F.length
  | [], _ => rfl
  | x :: xs, F => by rw [goF, goF_len P xs, afterF_len]
theorem pad_afterF (ss fs : List Int) (hl : fs.length = ss.length) (hs : ss.length ≤ 4) (a b : Int) (ha : -1 ≤ a ∧ a < (ss.length : Int)) (hb : -1 ≤ b ∧ b < (ss.length : Int)) (hab : a ≠ b) : afterF (padF ss) (padF fs) a b = padF (afterF ss fs a b) := by
  rw [padF_app (fs := ss) hs, padF_app (fs := fs) (by omega), padF_app (by rw [afterF_len]; omega), after_app ss fs _ _ hl a b ha hb hab, afterF_len]
theorem pad_goF (ss : List Int) (hs : ss.length ≤ 4) : ∀ (xs : List Pt) (fs : List Int), fs.length = ss.length → (∀ p ∈ xs, okP ss.length p = true) → goF (padF ss) (padF fs) xs = padF (goF ss fs xs)
  | [], _, _, _ => rfl
  | x :: xs, fs, hl, h => by
    obtain ⟨h1, h2, h3⟩ := okP_iff.1 (h x (by simp))
    rw [goF, goF, pad_afterF ss fs hl hs x.1 x.2 h2 h3 h1]
    exact pad_goF ss hs xs _ (by rw [afterF_len]; exact hl) (fun p hp => h p (List.mem_cons_of_mem _ hp))
theorem fits_afterF {ss fs : List Int} (hj : jugsB ss = true) (hf : fitsB ss fs = true) {a b : Int} (ha : -1 ≤ a ∧ a < (ss.length : Int)) (hb : -1 ≤ b ∧ b < (ss.length : Int)) (hab : a ≠ b) : fitsB ss (afterF ss fs a b) = true := by
  obtain ⟨hfit, hl, h4⟩ := fits_pad hj hf
  have h := hfit.after (f := a) (t := b) (by omega) (by omega) hab
  rw [pad_afterF ss fs hl (by omega) a b ha hb hab] at h
  unfold fitsB
  rw [Bool.and_eq_true, decide_eq_true_eq, List.all_eq_true]
  refine ⟨by rw [afterF_len]; exact hl, fun i hi => ?_⟩
  have hi := List.mem_range.1 hi
  rw [afterF_len] at hi
  have := h.2 i (by omega)
  rw [padF_getD _ _ (by omega), padF_getD _ _ (by omega)] at this
  simp only [Bool.and_eq_true, decide_eq_true_eq]
  omega
theorem fits_goF {ss : List Int} (hj : jugsB ss = true) : ∀ (xs : List Pt) (fs : List Int), fitsB ss fs = true → (∀ p ∈ xs, okP ss.length p = true) → fitsB ss (goF ss fs xs) = true
  | [], _, hf, _ => hf
  | x :: xs, fs, hf, h => by
    obtain ⟨h1, h2, h3⟩ := okP_iff.1 (h x (by simp))
    rw [goF]
    exact fits_goF hj xs _ (fits_afterF hj hf h2 h3 h1) (fun p hp => h p (List.mem_cons_of_mem _ hp))
set_option maxRecDepth 100000 in
set_option maxHeartbeats 1000000 in
theorem Clone_any (zs : List Int) (g c : Nat) (w : World) (hp : IntsAt w g 0 zs) (hl : zs.length ≤ 1000) :
    Calls Try.prog 56 #[.slice (some ⟨g, 0, none⟩) zs.length c] w fun e w' => ∃ v, e = .returned v ∧ w'.ownsRow w.heap.size 3 1 v zs.length (zs.map encI) ∧ Below w.heap.size w w' := by
  obtain ⟨i0, hi, hz0, hz1, hz2⟩ := info_parts info3
  have hlt : zs ≠ [] → g < w.heap.size := fun h => hp.lt.resolve_left h
  have h0 : (w.alloc (.cells #[] 3)).ownsRow w.heap.size 3 1 (.slice (some ⟨w.heap.size, 0, none⟩) 0 0) 0 [] :=
    ⟨rfl, .inr ⟨_, 0, _, rfl, Nat.le_refl _, (Row.new w 3 []), Nat.le_refl _, by unfold maxLen; omega, rfl, rfl⟩⟩
  have H0 := Lib.hid h0
  have ba := (Below.refl w.heap.size w).alloc (Nat.le_refl _) (.cells #[] 3)
  have BA := Lib.hid ba
  have HN := Lib.hid (show ∀ j u, (zs.map encI)[j]? = some u → (w.alloc (.cells #[] 3)).cell? ((⟨g, 0, none⟩ : Addr).add j) = some u from by
    by_cases hz : zs = []
    · subst hz; intro j u h; simp at h
    · exact (hp.below ba (hlt hz)).cells)
  have HZ := Lib.hid hp
  have s1 : ∀ w, (binOp .eql 22 (.slice (some ⟨g, 0, none⟩) zs.length c) (.slice none 0 0)).run Try.prog w = .ok (.bool false) w := fun w => by
    first
      | kernel_rfl
      | simp [binOp, go_sem]
  clear h0 ba hp hlt
  go_enter Try.func56, Try.ntmps56
  go_wp2_with (at_builtin; refine wpList_append_own_at _ rfl _ _ 22 rfl w.heap.size 3 i0 (.int .i64 0) 1 8 Try.underlying22 hi hz0 hz1 hz2 rfl (by decide) _ _ _ rfl H0.out ⟨g, 0, none⟩ zs.length c (zs.map encI) rfl (by rw [List.length_map]; omega) HN.out (fun x hx => by obtain ⟨y, _, rfl⟩ := List.mem_map.1 hx; simp [Value.oneCell', encI]) (by unfold maxLen; omega) (by omega) BA.out.size ?_; intro v' w2 hown' hgrow hnil hat; have HR := Lib.hid hown'; have B4 := Lib.hid hgrow; clear hown' hgrow hnil hat)
  go_ret
  refine ⟨_, rfl, ?_, ?_⟩
  · simpa using HR.out
  · exact BA.out.grown B4.out BA.out.size (fun k e => by cases e; exact Nat.le_refl _)
set_option maxRecDepth 100000 in
set_option maxHeartbeats 2000000 in
/-- what is no step changes nothing -/
theorem rStep_bad (ss : List Int) (n c : Nat) (a b : Int) (v : Value) (p : Option Addr) (w : World) (hv : SlI w v ss) (hn : ss.length ≤ 1000) (hbad : okP ss.length (a, b) = false) :
    Calls Try.prog 61 #[v, .slice p n c, .agg #[.int .i64 a, .int .i64 b]] w fun e w' => e = .returned (.tuple #[.slice p n c, .bool false]) ∧ Below w.heap.size w w' := by
  obtain ⟨va, vc, rfl, _⟩ := hv
  have hbad : a < -1 ∨ (ss.length : Int) ≤ a ∨ b < -1 ∨ (ss.length : Int) ≤ b ∨ a = b := by
    refine Classical.byContradiction fun h => ?_
    rw [okP_iff.2 ⟨by dsimp only; omega, by dsimp only; omega, by dsimp only; omega⟩] at hbad
    cases hbad
  have ba := (Below.refl w.heap.size w).alloc (Nat.le_refl _) (.cells #[.int .i64 a, .int .i64 b] 48)
  have r := Row.new w 48 [.int .i64 a, .int .i64 b]
  have c0 : (w.alloc (.cells #[.int .i64 a, .int .i64 b] 48)).cell? ⟨w.heap.size, 0, none⟩ = some (.int .i64 a) := r.cell 0
  have c1 : (w.alloc (.cells #[.int .i64 a, .int .i64 b] 48)).cell? ⟨w.heap.size, 1, none⟩ = some (.int .i64 b) := r.cell 1
  have BA := Lib.hid ba
  generalize ss.length = m at *
  clear ba r
  by_cases h0 : a < -1
  · have d00 : decide (a < -1) = true := by exact decide_eq_true (by omega)
    clear hbad
    go_enter Try.func61, Try.ntmps61
    go_wp2_with fail
    go_quiet (fail)
    go_wp2_with fail
    go_ret2
    exact ⟨rfl, below_drewN BA.out _⟩
  have d00 : decide (a < -1) = false := by exact decide_eq_false (by omega)
  by_cases h1 : (m : Int) ≤ a
  · have d10 : decide (a ≥ (m : Int)) = true := by exact decide_eq_true (by omega)
    have d11 : decide ((m : Int) ≤ a) = true := by exact decide_eq_true (by omega)
    clear hbad
    go_enter Try.func61, Try.ntmps61
    go_wp2_with fail
    go_quiet (fail)
    go_wp2_with fail
    go_ret2
    exact ⟨rfl, below_drewN BA.out _⟩
  have d10 : decide (a ≥ (m : Int)) = false := by exact decide_eq_false (by omega)
  have d11 : decide ((m : Int) ≤ a) = false := by exact decide_eq_false (by omega)
  by_cases h2 : b < -1
  · have d20 : decide (b < -1) = true := by exact decide_eq_true (by omega)
    clear hbad
    go_enter Try.func61, Try.ntmps61
    go_wp2_with fail
    go_quiet (fail)
    go_wp2_with fail
    go_ret2
    exact ⟨rfl, below_drewN BA.out _⟩
  have d20 : decide (b < -1) = false := by exact decide_eq_false (by omega)
  by_cases h3 : (m : Int) ≤ b
  · have d30 : decide (b ≥ (m : Int)) = true := by exact decide_eq_true (by omega)
    have d31 : decide ((m : Int) ≤ b) = true := by exact decide_eq_true (by omega)
    clear hbad
    go_enter Try.func61, Try.ntmps61
    go_wp2_with fail
    go_quiet (fail)
    go_wp2_with fail
    go_ret2
    exact ⟨rfl, below_drewN BA.out _⟩
  have d30 : decide (b ≥ (m : Int)) = false := by exact decide_eq_false (by omega)
  have d31 : decide ((m : Int) ≤ b) = false := by exact decide_eq_false (by omega)
  by_cases h4 : a = b
  · have d40 : (a == b) = true := by simp [h4]
    have d41 : decide (a = b) = true := by simp [h4]
    clear hbad
    have H4 := Lib.hid h4
    clear h4
    go_enter Try.func61, Try.ntmps61
    go_wp2_with fail
    go_quiet (fail)
    go_wp2_with fail
    go_ret2
    exact ⟨rfl, below_drewN BA.out _⟩
  have d40 : (a == b) = false := by simp [h4]
  have d41 : decide (a = b) = false := by simp [h4]
  exfalso; omega
end Go.Proofs.Ytlamppplnojpbaa
