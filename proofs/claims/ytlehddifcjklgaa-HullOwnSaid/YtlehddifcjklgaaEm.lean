import Derived.Test.YtlehddifcjklgaaEf
import Derived.Maps.OwnIn
import Derived.Maps.OwnSet
import Derived.Maps.AppendAt
import Derived.RangeFuncNested
import Derived.RangeFuncBound
import Derived.RangeFuncCalls
import Derived.RangeFuncLeaves
import Derived.Shelf.Abstract
import Derived.Shelf.RegionOpen
import Derived.WalkKit
import Derived.OwnWalkIn
import Derived.TacticsInMore
import Derived.LoopNIn
import Derived.LoopIn
import Derived.WalkMore
import Derived.Sort.QuietThIn
import Derived.Sort.QuietTacIn
import Derived.Sort.BigQuietIn
import Derived.WalkSpells
import Derived.WalkLawsBesides
import Derived.BigQuiet
import Derived.Deep.QuietTactic
import Derived.Lib.Hide
import Derived.Deep.RegionHeld3
import Derived.StillTailTactics
import Derived.Deep.LoopGhost
import Derived.Lib.IndexAny
namespace Go.Proofs.Ytlehddifcjklgaa
open Go.RowKit Go.Shelf
attribute [local go_sem] Oper.semAt_some
theorem clear_cells {W : World} {n₀ g c : Nat} : ∀ (t i : Nat) (W : World) (L : List Pt), OwnG W n₀ g c L → i + t = L.length → Below n₀ W (W.setCells g (i * 2) (List.replicate (t * 2) (.int .i64 0))) ∧ OwnG (W.setCells g (i * 2) (List.replicate (t * 2) (.int .i64 0))) n₀ g c (L.take i ++ List.replicate t (0, 0))
  | 0, i, W, L, h, hl => by
    have e : L.take i ++ List.replicate 0 (0, 0) = L := by rw [List.replicate_zero, List.append_nil, List.take_of_length_le (by omega)]
    rw [e]
    exact ⟨Below.refl _ _, h⟩
  | t + 1, i, W, L, h, hl => by
    have hi : i < L.length := by omega
    have h2 := h.set i hi 0 0
    obtain ⟨cur, hh, hg, _⟩ := h.heap
    have hb := ((Below.refl n₀ W).setCell (p := ⟨g, i * 2, none⟩) hg (.int .i64 0)).setCell (p := ⟨g, i * 2 + 1, none⟩) hg (.int .i64 0)
    obtain ⟨k1, k2⟩ := clear_cells (W := W) t (i + 1) _ _ h2 (by rw [List.length_set]; omega)
    have e : W.setCells g (i * 2) (List.replicate ((t + 1) * 2) (.int .i64 0)) = (((W.setCell ⟨g, i * 2, none⟩ (.int .i64 0)).setCell ⟨g, i * 2 + 1, none⟩ (.int .i64 0)).setCells g ((i + 1) * 2) (List.replicate (t * 2) (.int .i64 0))) := by
      rw [show (t + 1) * 2 = t * 2 + 1 + 1 by omega, List.replicate_succ, List.replicate_succ, show (i + 1) * 2 = i * 2 + 1 + 1 by omega]
      rfl
    rw [e]
    refine ⟨hb.trans k1, ?_⟩
    have e2 : (L.set i (0, 0)).take (i + 1) ++ List.replicate t (0, 0) = L.take i ++ List.replicate (t + 1) (0, 0) := by
      rw [List.take_set, ← List.take_append_getElem hi, List.set_append_right _ _ (by rw [List.length_take]; omega), List.length_take, Nat.min_eq_left (by omega), Nat.sub_self, List.replicate_succ]
      simp
    rw [← e2]; exact k2
theorem clear_own {W : World} {n₀ g c m cc : Nat} {L : List Pt} (h : OwnG W n₀ g c L) (hm : m < L.length) (ty : TypeId) :
    ∃ W', (Builtin.clear_ #[22] ty #[.slice (some ⟨g, m * 2, none⟩) (L.length - m) cc]).run Try.prog W = .ok (.tuple #[]) W' ∧ OwnG W' n₀ g c (L.take m ++ List.replicate (L.length - m) (0, 0)) ∧ Below n₀ W W' := by
  obtain ⟨i0, hi, hz0, hz1, hz2⟩ := info_parts info58
  have hv : ∀ w, (zeroValue 58).run Try.prog w = .ok (.agg #[.int .i64 0, .int .i64 0]) w := fun w => by simp [zeroValue, typeInfo, hi, hz0]
  have ht : Try.prog.underlying 22 = some (.slice 58) := by simp [Try.underlying22]
  obtain ⟨n, hn⟩ : ∃ n, L.length - m = n := ⟨_, rfl⟩
  rw [hn]
  have hzc : (Builtin.zeroCells (Value.agg #[.int .i64 0, .int .i64 0]).cells n).toList = List.replicate (n * 2) (.int .i64 0) := by
    apply List.ext_getElem
    · simp [Builtin.zeroCells, Value.cells]
    · intro i h1 h2
      rcases Nat.mod_two_eq_zero_or_one i with e | e <;> simp [Builtin.zeroCells, Value.cells, e]
  obtain ⟨cur, hh, hg, hcc, hml, hsz, htk⟩ := h.heap
  have hst := run_storeCells_cells (P := Try.prog) g (m * 2) (List.replicate (n * 2) (.int .i64 0)) 0 W (fun j hj => by
      rw [List.length_replicate] at hj
      have : m * 2 + j < cur.size := by rw [hsz]; omega
      simp [World.cell?, hh, this]) (fun j _ => by simp [World.frozen?, hh]) (by intro v hv'; rw [List.eq_of_mem_replicate hv']; rfl)
  simp only [Nat.add_zero] at hst
  obtain ⟨k1, k2⟩ := clear_cells (W := W) n m W L h (by omega)
  refine ⟨_, ?_, k2, k1⟩
  obtain ⟨n', rfl⟩ : ∃ n', n = n' + 1 := ⟨n - 1, by omega⟩
  simp [Builtin.clear_, run_underlying ht, hv, hzc, hst]
end Go.Proofs.Ytlehddifcjklgaa
