import Derived.Test.YtlehddifcjklgaaCb
import Derived.Test.YtlehddifcjklgaaBs
import Derived.Maps.OwnIn
import Derived.Maps.OwnSet
import Derived.Maps.AppendAt
import Derived.RangeFuncNested
import Derived.RangeFuncBound
import Derived.RangeFuncCalls
import Derived.RangeFuncLeaves
import Derived.Shelf.Abstract
import Derived.Shelf.RegionOpen
import Derived.WalkKit
import Derived.OwnWalkIn
import Derived.TacticsInMore
import Derived.LoopNIn
import Derived.LoopIn
import Derived.WalkMore
import Derived.Sort.QuietThIn
import Derived.Sort.QuietTacIn
import Derived.Sort.BigQuietIn
import Derived.WalkSpells
import Derived.WalkLawsBesides
import Derived.BigQuiet
import Derived.Deep.QuietTactic
import Derived.Lib.Hide
import Derived.Deep.RegionHeld3
import Derived.StillTailTactics
import Derived.Deep.LoopGhost
import Derived.Lib.IndexAny

namespace Go.Proofs.Ytlehddifcjklgaa
open Go.RowKit Go.Shelf
attribute [local go_sem] Oper.semAt_some
theorem sum_range_cyc (F : Nat → Int) : ∀ m, ((List.range (m + 1)).map (fun i => F ((i + 1) % (m + 1)))).sum = ((List.range (m + 1)).map F).sum := fun m => by
  have e1 : (List.range (m + 1)).map (fun i => F ((i + 1) % (m + 1))) = (List.range m).map (fun i => F (i + 1)) ++ [F 0] := by
    rw [List.range_succ, List.map_append]
    congr 1
    · refine List.map_congr_left (fun i hi => ?_)
      have := List.mem_range.1 hi
      rw [Nat.mod_eq_of_lt (by omega)]
    · simp
  have e2 : (List.range (m + 1)).map F = F 0 :: (List.range m).map (fun i => F (i + 1)) := by
    rw [List.range_succ_eq_map]; simp [Function.comp_def]
  rw [e1, e2, List.sum_append, List.sum_cons]
  simp only [List.sum_cons, List.sum_nil]
  omega
theorem sum_map_sub (f g : Nat → Int) : ∀ l : List Nat, (l.map (fun i => f i - g i)).sum = (l.map f).sum - (l.map g).sum
  | [] => rfl
  | x :: l => by simp only [List.map_cons, List.sum_cons, sum_map_sub f g l]; omega
theorem sum_map_add (f g : Nat → Int) : ∀ l : List Nat, (l.map (fun i => f i + g i)).sum = (l.map f).sum + (l.map g).sum
  | [] => rfl
  | x :: l => by simp only [List.map_cons, List.sum_cons, sum_map_add f g l]; omega
theorem sum_pos_of {f : Nat → Int} : ∀ {l : List Nat}, (∀ i ∈ l, 0 ≤ f i) → (∃ i ∈ l, 0 < f i) → 0 < (l.map f).sum
  | [], _, ⟨_, h, _⟩ => by cases h
  | x :: l, h, ⟨i, hi, hp⟩ => by
    simp only [List.map_cons, List.sum_cons]
    have hnn : 0 ≤ (l.map f).sum := by
      clear hi hp
      have h' := fun i hi => h i (List.mem_cons_of_mem x hi)
      clear h
      induction l with
      | nil => simp
      | cons y l ih =>
        simp only [List.map_cons, List.sum_cons]
        have := h' y List.mem_cons_self
        have := ih (fun i hi => h' i (List.mem_cons_of_mem _ hi))
        omega
    rcases List.mem_cons.1 hi with rfl | hi
    · omega
    · have := sum_pos_of (fun i hi => h i (List.mem_cons_of_mem _ hi)) ⟨i, hi, hp⟩
      have := h x List.mem_cons_self
      omega
/-- the area, from any point -/
theorem area_from (ps : List Pt) (c : Pt) (h : 0 < ps.length) : area ps = ((List.range ps.length).map (fun i => turn (ptAt ps i) (nx ps i) c)).sum := by
  have e : ∀ i, turn (ptAt ps i) (nx ps i) c = crsAt ps i + (crs c (ptAt ps i) - crs c (nx ps i)) := fun i => by unfold turn crsAt crs; grind
  have hm : (List.range ps.length).map (fun i => turn (ptAt ps i) (nx ps i) c) = (List.range ps.length).map (fun i => crsAt ps i + (crs c (ptAt ps i) - crs c (nx ps i))) := List.map_congr_left (fun i _ => e i)
  rw [hm, sum_map_add, sum_map_sub]
  have := sum_range_cyc (fun i => crs c (ptAt ps i)) (ps.length - 1)
  rw [show ps.length - 1 + 1 = ps.length by omega] at this
  have e3 : ((List.range ps.length).map (fun i => crs c (nx ps i))).sum = ((List.range ps.length).map (fun i => crs c (ptAt ps i))).sum := this
  rw [e3]
  unfold area
  omega
theorem chk_area {ps : List Pt} (h : chk ps = true) : 0 < area ps := by
  have ha : areP ps = true := by unfold chk at h; exact (Bool.and_eq_true _ _ ▸ h : _ ∧ _).1
  have h3 := (areP_len ha).1
  have hs : ∀ i, i < ps.length → sideAt ps i = true := fun i hi => by
    unfold chk at h
    rw [Bool.and_eq_true, List.all_eq_true] at h
    exact h.2 i (List.mem_range.2 hi)
  have ht : ∀ i, i < ps.length → 0 ≠ i → 0 ≠ (i + 1) % ps.length → 0 < turn (ptAt ps i) (nx ps i) (ptAt ps 0) := fun i hi h1 h2 => (sideAt_iff h3 hi).1 (hs i hi) 0 (by omega) h1 h2
  rw [area_from ps (ptAt ps 0) (by omega)]
  refine sum_pos_of (fun i hi => ?_) ⟨1, List.mem_range.2 (by omega), ht 1 (by omega) (by omega) (by rw [Nat.mod_eq_of_lt (by omega)]; omega)⟩
  have hi := List.mem_range.1 hi
  by_cases h0 : 0 = i
  · subst h0; rw [turn_end1]; omega
  · by_cases h1 : 0 = (i + 1) % ps.length
    · have : nx ps i = ptAt ps 0 := by unfold nx; rw [← h1]
      rw [this, turn_end2]; omega
    · exact Int.le_of_lt (ht i hi h0 h1)
theorem eq58g (a b c d : Int) (W : World) : (Op.equalIn 10000 58 (.agg #[.int .i64 a, .int .i64 b]) (.agg #[.int .i64 c, .int .i64 d])).run Try.prog W = .ok (decide (((a, b) : Pt) = (c, d))) W := by
  have info3' : ∃ i, Try.prog.info? 3 = some i := by
    obtain ⟨i0, hi, _⟩ := info_parts info3
    exact ⟨i0, hi⟩
  obtain ⟨i, hi⟩ := info3'
  refine (run_equalIn_array (P := Try.prog) W 9999 _ _ Try.underlying58 hi).trans ?_
  rw [cells3]
  have p0 : ∀ (a b : Int) W, (part 3 #[.int .i64 a, .int .i64 b] 0).run Try.prog W = .ok (.int .i64 a) W := fun a b W => by kernel_rfl
  have p1 : ∀ (a b : Int) W, (part 3 #[.int .i64 a, .int .i64 b] 1).run Try.prog W = .ok (.int .i64 b) W := fun a b W => by kernel_rfl
  have pe : ∀ (a b : Int) (W : World), (Op.equalIn 9999 3 (.int .i64 a) (.int .i64 b)).run Try.prog W = .ok (a == b) W := fun a b W => by
    first
      | kernel_rfl
      | simp [Op.equalIn, go_sem]
  simp only [List.range, List.range.loop, Op.eqItems, Sem.run_bind, Nat.zero_mul, Nat.one_mul, p0, p1, Result.andThen_ok, pe, Prod.mk.injEq]
  by_cases h1 : a = c
  · by_cases h2 : b = d
    · simp [h1, h2, p1, pe, Sem.run_pure]
    · have : (b == d) = false := by simpa using h2
      simp [h1, h2, this, p1, pe, Sem.run_pure]
  · have : (a == c) = false := by simpa using h1
    simp [h1, this, Sem.run_pure]
set_option maxHeartbeats 400000 in
theorem Before_any (a1 a2 b1 b2 : Int) (w : World) :
    Calls Try.prog 61 #[.agg #[.int .i64 a1, .int .i64 a2], .agg #[.int .i64 b1, .int .i64 b2]] w fun e w' => e = .returned (.bool (befB (a1, a2) (b1, b2))) ∧ Below w.heap.size w w' := by
  obtain ⟨E, hE⟩ : ∃ E, befB (a1, a2) (b1, b2) = E := ⟨_, rfl⟩
  rw [hE]
  unfold befB at hE
  dsimp only at hE
  by_cases h1 : a1 < b1
  · have d1 : decide (a1 < b1) = true := decide_eq_true h1
    have HE := Lib.hid (show true = E by rw [← hE, d1]; rfl)
    clear hE
    go_enter Try.func61, Try.ntmps61
    go_wp2_with fail
    go_ret
    exact ⟨ret_bool HE.out, ((Below.refl w.heap.size w).alloc (Nat.le_refl _) _).alloc (by simp) _⟩
  · have d1 : decide (a1 < b1) = false := decide_eq_false h1
    by_cases h2 : a1 = b1
    · have d2 : (a1 == b1) = true := by simp [h2]
      have HE := Lib.hid (show decide (a2 < b2) = E by rw [← hE, d1]; simp [h2])
      clear hE
      go_enter Try.func61, Try.ntmps61
      go_wp2_with fail
      go_ret
      exact ⟨ret_bool HE.out, ((Below.refl w.heap.size w).alloc (Nat.le_refl _) _).alloc (by simp) _⟩
    · have d2 : (a1 == b1) = false := by simp [h2]
      have HE := Lib.hid (show false = E by rw [← hE, d1]; simp [h2])
      clear hE
      go_enter Try.func61, Try.ntmps61
      go_wp2_with fail
      go_ret
      exact ⟨ret_bool HE.out, ((Below.refl w.heap.size w).alloc (Nat.le_refl _) _).alloc (by simp) _⟩
set_option maxHeartbeats 400000 in
theorem far_any (a1 a2 b1 b2 : Int) (w : World) (h1 : Bd 1000 a1) (h2 : Bd 1000 a2) (h3 : Bd 1000 b1) (h4 : Bd 1000 b2) :
    Calls Try.prog 91 #[.agg #[.int .i64 a1, .int .i64 a2], .agg #[.int .i64 b1, .int .i64 b2]] w fun e w' => e = .returned (.int .i64 (far (a1, a2) (b1, b2))) ∧ Below w.heap.size w w' := by
  have e1 := i64_bd (h1.sub h3) (by omega)
  have e2 := i64_bd (h2.sub h4) (by omega)
  have e3 := i64_bd ((h1.sub h3).mul (h1.sub h3)) (by omega)
  have e4 := i64_bd ((h2.sub h4).mul (h2.sub h4)) (by omega)
  have e5 := i64_bd (((h1.sub h3).mul (h1.sub h3)).add ((h2.sub h4).mul (h2.sub h4))) (by omega)
  unfold far
  dsimp only
  clear h1 h2 h3 h4
  go_enter Try.func91, Try.ntmps91
  go_wp2_with fail
  go_ret
  exact ⟨rfl, ((Below.refl w.heap.size w).alloc (Nat.le_refl _) _).alloc (by simp) _⟩
end Go.Proofs.Ytlehddifcjklgaa
