import Derived.Test.YtlemipnplgbckaaBL
import Derived.Laws.AppendOwn
import Derived.ChangeKeysEq
import Derived.Maps.RangeWalk
import Derived.Maps.OwnIn
import Derived.Maps.AppendAt
import Derived.RangeFuncNested
import Derived.RangeFuncBound
import Derived.RangeFuncCalls
import Derived.RangeFuncLeaves
import Derived.Shelf.Abstract
import Derived.Shelf.RegionOpen
import Derived.WalkKit
import Derived.WalkMore
import Derived.OwnWalkIn
import Derived.TacticsInMore
import Derived.LoopNIn
import Derived.LoopIn
import Derived.WalkSpells
import Derived.WalkLawsBesides
import Derived.BigQuiet
import Derived.Deep.QuietTactic
import Derived.Lib.Hide
import Derived.Deep.RegionHeld3
import Derived.StillTailTactics
import Derived.Deep.LoopGhost
import Derived.Maps.OwnSet
import Derived.Lib.IndexAny
import Derived.Sort.QuietThIn
import Derived.Sort.QuietTacIn
import Derived.Sort.BigQuietIn
import Derived.Laws.OwnMore
import Derived.DeepKeys4
import Derived.Maps.Views
import Derived.Maps.OwnOps
import Derived.Laws.OwnMore
import Derived.Deep.DeepCutAuto
import Derived.ChangeKeysEq
namespace Go.Proofs.Ytlemipnplgbckaa
open Go.RowKit Go.Shelf
attribute [local go_sem] Oper.semAt_some
theorem info30 : (Try.prog.info? 30).map (fun i => (i.zero, i.size, i.bytes)) = some (some (.agg #[.int .i64 0, .int .i64 0, .int .i64 0, .int .i64 0]), 4, 32) := by kernel_rfl
def flatC : List Cir → List Value
  | [] => []
  | c :: cs => .int .i64 c.X :: .int .i64 c.Y :: .int .i64 c.D :: .int .i64 c.R :: flatC cs
theorem flatC_length : ∀ cs : List Cir, (flatC cs).length = cs.length * 4
  | [] => rfl
  | c :: cs => by simp only [flatC, List.length_cons, flatC_length cs]; omega
theorem flatC_snoc (c : Cir) : ∀ cs : List Cir, flatC (cs ++ [c]) = flatC cs ++ [.int .i64 c.X, .int .i64 c.Y, .int .i64 c.D, .int .i64 c.R]
  | [] => rfl
  | x :: xs => by simp only [List.cons_append, flatC, flatC_snoc c xs]
theorem flatC_get : ∀ (cs : List Cir) (i : Nat) (h : i < cs.length), (flatC cs)[i * 4]? = some (.int .i64 cs[i].X) ∧ (flatC cs)[i * 4 + 1]? = some (.int .i64 cs[i].Y) ∧ (flatC cs)[i * 4 + 2]? = some (.int .i64 cs[i].D) ∧ (flatC cs)[i * 4 + 3]? = some (.int .i64 cs[i].R)
  | c :: cs, 0, _ => ⟨rfl, rfl, rfl, rfl⟩
  | c :: cs, i + 1, h => by
    have := flatC_get cs i (by simpa using h)
    simp only [flatC, List.getElem_cons_succ]
    rw [show (i + 1) * 4 = i * 4 + 1 + 1 + 1 + 1 by omega]
    exact this
theorem flatC_set : ∀ (cs : List Cir) (i : Nat) (c : Cir), flatC (cs.set i c) = ((((flatC cs).set (i * 4) (.int .i64 c.X)).set (i * 4 + 1) (.int .i64 c.Y)).set (i * 4 + 2) (.int .i64 c.D)).set (i * 4 + 3) (.int .i64 c.R)
  | [], _, _ => rfl
  | x :: xs, 0, c => rfl
  | x :: xs, i + 1, c => by
    rw [show (i + 1) * 4 = i * 4 + 1 + 1 + 1 + 1 by omega]
    simp only [List.set_cons_succ, flatC]
    rw [flatC_set xs i c]
theorem flatC_take : ∀ (cs : List Cir) (m : Nat), (flatC cs).take (m * 4) = flatC (cs.take m)
  | [], m => by simp [flatC]
  | c :: cs, 0 => by simp [flatC]
  | c :: cs, m + 1 => by
    rw [show (m + 1) * 4 = m * 4 + 1 + 1 + 1 + 1 by omega]
    simp only [flatC, List.take_succ_cons]
    rw [flatC_take cs m]
/-- circles in a block of their own -/
def OwnC (W : World) (n₀ g cap : Nat) (cs : List Cir) : Prop := W.ownsRow n₀ 30 4 (.slice (some ⟨g, 0, none⟩) cs.length cap) cs.length (flatC cs)
theorem OwnC.heap {W : World} {n₀ g cap : Nat} {cs : List Cir} (h : OwnC W n₀ g cap cs) : ∃ cur : Array Value, W.heap[g]? = some (.cells cur 30 (0, 0)) ∧ n₀ ≤ g ∧ cs.length ≤ cap ∧ cap ≤ maxLen ∧ cur.size = cap * 4 ∧ cur.toList.take (cs.length * 4) = flatC cs := by
  rcases h.2 with ⟨e, _⟩ | ⟨g', cap', cur, e, h1, h2, h3, h4, h5, h6⟩
  · cases e
  · cases e
    exact ⟨cur, h2, h1, h3, h4, h5, h6⟩
theorem OwnC.at_ {W : World} {n₀ g cap : Nat} {cs : List Cir} (h : OwnC W n₀ g cap cs) : CirsAt W g 0 cs := by
  obtain ⟨cur, h2, _⟩ := h.heap
  refine ⟨?_, fun i hi => ?_, fun i hi => ?_, fun i hi => ?_, fun i hi => ?_⟩
  · rcases Nat.lt_or_ge g W.heap.size with h3 | h3
    · exact h3
    · rw [Array.getElem?_eq_none h3] at h2; cases h2
  · rw [Nat.zero_add, h.cellAt _ (by omega)]; exact (flatC_get cs i hi).1
  · rw [Nat.zero_add, h.cellAt _ (by omega)]; exact (flatC_get cs i hi).2.1
  · rw [Nat.zero_add, h.cellAt _ (by omega)]; exact (flatC_get cs i hi).2.2.1
  · rw [Nat.zero_add, h.cellAt _ (by omega)]; exact (flatC_get cs i hi).2.2.2
theorem OwnC.slc {W : World} {n₀ g cap : Nat} {cs : List Cir} (h : OwnC W n₀ g cap cs) : SlC W (.slice (some ⟨g, 0, none⟩) cs.length cap) cs := by
  obtain ⟨cur, _, _, h3, _⟩ := h.heap
  exact ⟨_, cap, rfl, h3, .inr ⟨g, 0, rfl, h.at_⟩⟩
theorem OwnC.set {W : World} {n₀ g cap : Nat} {cs : List Cir} (h : OwnC W n₀ g cap cs) (i : Nat) (c : Cir) :
    OwnC ((((W.setCell ⟨g, i * 4, none⟩ (.int .i64 c.X)).setCell ⟨g, i * 4 + 1, none⟩ (.int .i64 c.Y)).setCell ⟨g, i * 4 + 2, none⟩ (.int .i64 c.D)).setCell ⟨g, i * 4 + 3, none⟩ (.int .i64 c.R)) n₀ g cap (cs.set i c) := by
  have h1 := (h.stored (i * 4) (.int .i64 c.X)).1
  have h2 := (World.ownsRow.stored h1 (i * 4 + 1) (.int .i64 c.Y)).1
  have h3 := (World.ownsRow.stored h2 (i * 4 + 2) (.int .i64 c.D)).1
  have h4 := (World.ownsRow.stored h3 (i * 4 + 3) (.int .i64 c.R)).1
  unfold OwnC
  rw [flatC_set, List.length_set]
  exact h4
theorem setCell_heap (W : World) (g i : Nat) (v : Value) (cur : Array Value) (h : W.heap[g]? = some (.cells cur 30 (0, 0))) : (W.setCell ⟨g, i, none⟩ v).heap[g]? = some (.cells (cur.setIfInBounds i v) 30 (0, 0)) := by
  have hlt := (Array.getElem?_eq_some_iff.1 h).1
  obtain ⟨_, he⟩ := Array.getElem?_eq_some_iff.1 h
  simp [World.setCell, hlt, Array.getElem_modify, he]
theorem setCells_beyond {g n₀ : Nat} (hg : n₀ ≤ g) : ∀ (vs : List Value) (o : Nat) (W : World) (cur : Array Value), W.heap[g]? = some (.cells cur 30 (0, 0)) → Below n₀ W (W.setCells g o vs) ∧ ∃ cur' : Array Value, (W.setCells g o vs).heap[g]? = some (.cells cur' 30 (0, 0)) ∧ cur'.size = cur.size ∧ ∀ k, k ≤ o → cur'.toList.take k = cur.toList.take k
  | [], o, W, cur, h => ⟨Below.refl _ _, cur, h, rfl, fun _ _ => rfl⟩
  | v :: vs, o, W, cur, h => by
    have h1 : (W.setCell ⟨g, o, none⟩ v).heap[g]? = some (.cells (cur.setIfInBounds o v) 30 (0, 0)) := by
      exact setCell_heap W g o v cur h
    obtain ⟨hb, cur', e1, e2, e3⟩ := setCells_beyond hg vs (o + 1) _ _ h1
    refine ⟨((Below.refl n₀ W).setCell (p := ⟨g, o, none⟩) hg v).trans hb, cur', e1, by rw [e2]; simp, fun k hk => ?_⟩
    rw [e3 k (by omega)]
    rw [Array.toList_setIfInBounds, List.take_set_of_le (by omega)]
theorem clearC {W : World} {n₀ g cap m cc : Nat} {L : List Cir} (h : OwnC W n₀ g cap L) (hm : m < L.length) (ty : TypeId) :
    ∃ W', (Builtin.clear_ #[78] ty #[.slice (some ⟨g, m * 4, none⟩) (L.length - m) cc]).run Try.prog W = .ok (.tuple #[]) W' ∧ OwnC W' n₀ g cap (L.take m) ∧ Below n₀ W W' := by
  obtain ⟨i0, hi, hz0, hz1, hz2⟩ := info_parts info30
  have hv : ∀ w, (zeroValue 30).run Try.prog w = .ok (.agg #[.int .i64 0, .int .i64 0, .int .i64 0, .int .i64 0]) w := fun w => by simp [zeroValue, typeInfo, hi, hz0]
  have ht : Try.prog.underlying 78 = some (.slice 30) := by simp [Try.underlying78]
  obtain ⟨n, hn⟩ : ∃ n, L.length - m = n := ⟨_, rfl⟩
  rw [hn]
  have hzc : (Builtin.zeroCells (Value.agg #[.int .i64 0, .int .i64 0, .int .i64 0, .int .i64 0]).cells n).toList = List.replicate (n * 4) (.int .i64 0) := by
    apply List.ext_getElem
    · simp [Builtin.zeroCells, Value.cells]
    · intro i h1 h2
      rcases (show i % 4 = 0 ∨ i % 4 = 1 ∨ i % 4 = 2 ∨ i % 4 = 3 by omega) with e | e | e | e <;> simp [Builtin.zeroCells, Value.cells, e]
  obtain ⟨cur, hh, hg, hcc, hml, hsz, htk⟩ := h.heap
  have hst := run_storeCells_cells (P := Try.prog) g (m * 4) (List.replicate (n * 4) (.int .i64 0)) 0 W (fun j hj => by
      rw [List.length_replicate] at hj
      have : m * 4 + j < cur.size := by rw [hsz]; omega
      simp [World.cell?, hh, this]) (fun j _ => by simp [World.frozen?, hh]) (by intro v hv'; rw [List.eq_of_mem_replicate hv']; rfl)
  simp only [Nat.add_zero] at hst
  obtain ⟨hb, cur', e1, e2, e3⟩ := setCells_beyond hg (List.replicate (n * 4) (.int .i64 0)) (m * 4) W cur hh
  refine ⟨_, ?_, ?_, hb⟩
  · obtain ⟨n', rfl⟩ : ∃ n', n = n' + 1 := ⟨n - 1, by omega⟩
    simp [Builtin.clear_, run_underlying ht, hv, hzc, hst]
  · refine ⟨by rw [flatC_length], .inr ⟨g, cap, cur', by rw [List.length_take, Nat.min_eq_left (by omega)], hg, e1, by rw [List.length_take]; omega, hml, by rw [e2, hsz], ?_⟩⟩
    have e4 := e3 (m * 4) (Nat.le_refl _)
    rw [List.length_take, Nat.min_eq_left (by omega), e4, ← flatC_take, ← htk, List.take_take, Nat.min_eq_left (by omega)]
end Go.Proofs.Ytlemipnplgbckaa
