import Derived.Test.YtlemipnplgbckaaSZ
import Derived.Test.YtlemipnplgbckaaMG
import Derived.Laws.AppendOwn
import Derived.ChangeKeysEq
import Derived.Maps.RangeWalk
import Derived.Maps.OwnIn
import Derived.Maps.AppendAt
import Derived.RangeFuncNested
import Derived.RangeFuncBound
import Derived.RangeFuncCalls
import Derived.RangeFuncLeaves
import Derived.Shelf.Abstract
import Derived.Shelf.RegionOpen
import Derived.WalkKit
import Derived.WalkMore
import Derived.OwnWalkIn
import Derived.TacticsInMore
import Derived.LoopNIn
import Derived.LoopIn
import Derived.WalkSpells
import Derived.WalkLawsBesides
import Derived.BigQuiet
import Derived.Deep.QuietTactic
import Derived.Lib.Hide
import Derived.Deep.RegionHeld3
import Derived.StillTailTactics
import Derived.Deep.LoopGhost
import Derived.Maps.OwnSet
import Derived.Lib.IndexAny
import Derived.Sort.QuietThIn
import Derived.Sort.QuietTacIn
import Derived.Sort.BigQuietIn
import Derived.Laws.OwnMore
import Derived.DeepKeys4
import Derived.Maps.Views
import Derived.Maps.OwnOps
import Derived.Deep.DeepCutAuto
import Derived.Shelf.Bits.Mul64
import Derived.Shelf.LaysM
namespace Go.Proofs.Ytlemipnplgbckaa
open Go.RowKit Go.Shelf
attribute [local go_sem] Oper.semAt_some
/-- the triples that begin with a, and their second number among the first m -/
def trJ (n a m : Nat) : List (Nat × Nat × Nat) := (List.range m).flatMap (fun t : Nat => rowT (a, a + 1 + t) (n - (a + 1 + t + 1)))
def trI (n i : Nat) : List (Nat × Nat × Nat) := (List.range i).flatMap (fun a : Nat => trJ n a (n - (a + 1)))
theorem trI_end (n : Nat) : trI n n = trL n := by
  unfold trI trL trF prL
  rw [List.flatMap_assoc]
  congr 1
  funext a
  unfold trJ rowQ
  rw [List.flatMap_map]
theorem trI_zero (n : Nat) : trI n 0 = [] := by simp [trI]
theorem trJ_zero (n a : Nat) : trJ n a 0 = [] := by simp [trJ]
theorem trI_next (n i : Nat) : trI n (i + 1) = trI n i ++ trJ n i (n - (i + 1)) := by
  unfold trI
  rw [List.range_succ, List.flatMap_append]; simp
theorem trJ_next (n i m : Nat) : trJ n i (m + 1) = trJ n i m ++ rowT (i, i + 1 + m) (n - (i + 1 + m + 1)) := by
  unfold trJ
  rw [List.range_succ, List.flatMap_append]; simp
theorem rowT_zero (p : Nat × Nat) : rowT p 0 = [] := by simp [rowT]
theorem rowT_next (p : Nat × Nat) (k : Nat) : rowT p (k + 1) = rowT p k ++ [(p.1, p.2, p.2 + 1 + k)] := by
  simp [rowT, List.range_succ]
theorem trJ_len (n a : Nat) : ∀ m, (trJ n a m).length ≤ m * n
  | 0 => by simp [trJ]
  | m + 1 => by
    rw [trJ_next, List.length_append, Nat.succ_mul]
    have h1 := trJ_len n a m
    have h2 : (rowT (a, a + 1 + m) (n - (a + 1 + m + 1))).length = n - (a + 1 + m + 1) := by simp [rowT]
    omega
theorem trI_len (n : Nat) : ∀ i, (trI n i).length ≤ i * (n * n)
  | 0 => by simp [trI]
  | i + 1 => by
    rw [trI_next, List.length_append, Nat.succ_mul]
    have h1 := trI_len n i
    have h2 := trJ_len n i (n - (i + 1))
    have h3 : (n - (i + 1)) * n ≤ n * n := Nat.mul_le_mul_right n (by omega)
    omega
theorem trB_len {n i jj kk : Nat} {f : Nat × Nat × Nat → Bool} (hn : n ≤ 12) (hi : i ≤ n) (hj : jj ≤ n) (hk : kk ≤ n) : ((trI n i ++ trJ n i jj ++ rowT (i, i + 1 + jj) kk).filter f).length ≤ 2000 := by
  refine Nat.le_trans (List.length_filter_le _ _) ?_
  rw [List.length_append, List.length_append]
  have h1 := trI_len n i
  have h2 := trJ_len n i jj
  have h3 : (rowT (i, i + 1 + jj) kk).length = kk := by simp [rowT]
  have h4 : i * (n * n) ≤ 12 * (12 * 12) := Nat.mul_le_mul (by omega) (Nat.mul_le_mul hn hn)
  have h5 : jj * n ≤ 12 * 12 := Nat.mul_le_mul (by omega) hn
  omega
/-- a point's numbers in memory, and their bounds -/
theorem pt_cell {w W : World} {g o n t : Nat} {ps : List Pt} (h : PtsAt w g o ps) (hb : Below w.heap.size w W) (hn : ps.length = n) (ht : t < n) : W.cell? ⟨g, o + t * 2, none⟩ = some (.int .i64 (ptAt ps t).1) ∧ W.cell? ⟨g, o + t * 2 + 1, none⟩ = some (.int .i64 (ptAt ps t).2) := by
  have hl : t < ps.length := by omega
  rw [ptAt_lt hl]
  exact ⟨(h.grow hb).x t hl, (h.grow hb).y t hl⟩
theorem pt_bd {ps : List Pt} {n t : Nat} (h : ∀ p ∈ ps, Bd 20 p.1 ∧ Bd 20 p.2) (hn : ps.length = n) (ht : t < n) : Bd 20 (ptAt ps t).1 ∧ Bd 20 (ptAt ps t).2 := by
  have hl : t < ps.length := by omega
  rw [ptAt_lt hl]
  exact h _ (List.getElem_mem hl)
/-- are the first m points not inside? -/
def okM (q : Bool) (M : Cir) (ps : List Pt) (m : Nat) : Bool := q && !(ps.take m).any (fun p => decide (whF M p < 0))
theorem okM_zero (q : Bool) (M : Cir) (ps : List Pt) : okM q M ps 0 = q := by simp [okM]
theorem okM_step {q : Bool} {M : Cir} {ps : List Pt} {m : Nat} (h : m < ps.length) : okM q M ps (m + 1) = (okM q M ps m && decide (0 ≤ whF M (ptAt ps m))) := by
  unfold okM
  rw [List.take_succ_eq_append_getElem h, List.any_append, ptAt_lt h]
  have e : decide (0 ≤ whF M ps[m]) = !decide (whF M ps[m] < 0) := by
    rw [Bool.eq_iff_iff]; simp
  rw [e]
  cases q <;> simp [Bool.not_or]
theorem okM_q {q : Bool} {M : Cir} {ps : List Pt} {m : Nat} (h : okM q M ps m = true) : q = true := by
  unfold okM at h; simp at h; exact h.1
theorem okM_end {ps : List Pt} {t : Nat × Nat × Nat} {q : Bool} {M : Cir} (hq : decide (thD (ptAt ps t.1) (ptAt ps t.2.1) (ptAt ps t.2.2) = 0) = !q) (hM : q = true → M = thC (ptAt ps t.1) (ptAt ps t.2.1) (ptAt ps t.2.2)) : empB ps t = okM q M ps ps.length := by
  unfold empB okM
  rw [hq, List.take_length, Bool.not_not]
  cases q with
  | false => simp
  | true => rw [hM rfl]
theorem thr_some (a b c : Pt) : ∃ (M : Cir) (q : Bool), thrV a b c = M.V ∧ decide (thD a b c = 0) = !q ∧ (q = true → M = thC a b c) := by
  rw [thrV_eq]
  by_cases h : thD a b c = 0
  · exact ⟨⟨0, 0, 0, 0⟩, false, by first | (rw [if_pos h]; rfl) | simp [h, Cir.V, cirV], by simp [h], fun h => by cases h⟩
  · exact ⟨thC a b c, true, by first | (rw [if_neg h]) | simp [h], by simp [h], fun _ => rfl⟩
/-- one triple more -/
theorem appT_one (W : World) (n₀ : Nat) (v : Value) (ts : List (Nat × Nat × Nat)) (t : Nat × Nat × Nat) (g : Nat) (h : W.ownsRow n₀ 71 3 v ts.length (flatT ts)) (hn : n₀ ≤ W.heap.size) (hl : ts.length ≤ 100000) (hr : Row W g 71 [.int .i64 (t.1 : Int), .int .i64 (t.2.1 : Int), .int .i64 (t.2.2 : Int)]) :
    ∃ v' W', (Builtin.append_ #[39, 39] 39 #[v, .slice (some ⟨g, 0, none⟩) 1 1]).run Try.prog W = .ok v' W' ∧ W'.ownsRow n₀ 71 3 v' (ts ++ [t]).length (flatT (ts ++ [t])) ∧ Below n₀ W W' := by
  obtain ⟨i0, hi, hz0, hz1, hz2⟩ := info_parts info71
  obtain ⟨v', W', h1, h2, h3, _, _⟩ := run_append_own_at (P := Try.prog) (w := W) n₀ 39 39 71 i0 (.agg #[.int .i64 0, .int .i64 0, .int .i64 0]) 3 24 Try.underlying39 hi hz0 hz1 hz2 rfl (by decide) v ts.length (flatT ts) h
    ⟨g, 0, none⟩ 1 1 [.int .i64 (t.1 : Int), .int .i64 (t.2.1 : Int), .int .i64 (t.2.2 : Int)] rfl (fun j u hu => by
      rw [Go.WideShapes.add_plain, Nat.zero_add, hr.cell]; exact hu) (by simp [Value.oneCell']) (by unfold maxLen; omega) (by omega) hn
  refine ⟨v', W', h1, ?_, (Below.refl n₀ W).grown h3 hn (fun r e => (World.ownsRow.lt h r e).1)⟩
  rw [flatT_snoc, List.length_append, List.length_singleton]
  exact h2
theorem ownT_slice {W : World} {n₀ k : Nat} {v : Value} {xs : List Value} (h : W.ownsRow n₀ 71 3 v k xs) : ∃ a c, v = .slice a k c := by
  rcases h.2 with ⟨e, h0⟩ | ⟨g, cap, cur, e, _⟩
  · exact ⟨_, _, by rw [e, h0]⟩
  · exact ⟨_, _, e⟩
end Go.Proofs.Ytlemipnplgbckaa
