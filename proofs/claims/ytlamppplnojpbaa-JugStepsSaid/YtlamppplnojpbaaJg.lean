import Derived.Test.YtlamppplnojpbaaJf
import Derived.Laws.AppendOwn
import Derived.Maps.OwnIn
import Derived.Maps.AppendAt
import Derived.RangeFuncNested
import Derived.RangeFuncBound
import Derived.RangeFuncCalls
import Derived.RangeFuncLeaves
import Derived.Shelf.Abstract
import Derived.Shelf.RegionOpen
import Derived.WalkKit
import Derived.OwnWalkIn
import Derived.TacticsInMore
import Derived.LoopNIn
import Derived.LoopIn
import Derived.WalkSpells
import Derived.WalkLawsBesides
import Derived.BigQuiet
import Derived.Deep.QuietTactic
import Derived.Lib.Hide
import Derived.Deep.RegionHeld3
import Derived.StillTailTactics
import Derived.Deep.LoopGhost
import Derived.Maps.OwnSet
import Derived.Lib.IndexAny
import Derived.Sort.QuietThIn
import Derived.Sort.QuietTacIn
import Derived.Sort.BigQuietIn
namespace Go.Proofs.Ytlamppplnojpbaa
open Go.RowKit Go.Shelf
attribute [local go_sem] Oper.semAt_some
/-! a queue: a slice that may begin anywhere in its block -/
section
variable {P : Program} (w : World)
theorem run_append_room_off (t ty e : TypeId) (i : TypeInfo) (ht : P.underlying t = some (.slice e)) (hi : P.info? e = some i)
    (g off sLen sCap : Nat) (cur : Array Value) (hg : w.heap[g]? = some (.cells cur e (0, 0)))
    (a : Addr) (m c : Nat) (news : List Value) (hl : news.length = m * i.size) (hnews : ∀ j u, news[j]? = some u → w.cell? (a.add j) = some u) (h1 : ∀ u ∈ news, u.oneCell' = true)
    (hroom : sLen + m ≤ sCap) (hfit : off + sLen * i.size + news.length ≤ cur.size) :
    (Builtin.append_ #[t, t] ty #[.slice (some ⟨g, off, none⟩) sLen sCap, .slice (some a) m c]).run P w =
      .ok (.slice (some ⟨g, off, none⟩) (sLen + m) sCap) (w.setRow g (cur.toList.take (off + sLen * i.size) ++ news ++ cur.toList.drop (off + sLen * i.size + news.length)).toArray) := by
  have hf := run_firstCells_some (P := P) w i.size m a m c news hl hnews
  have hst := run_storeCells_at P g (off + sLen * i.size) e news 0 cur w hg (by simpa using hfit) h1
  simp only [Nat.add_zero] at hst
  simp [Builtin.append_, run_underlying ht, sizeOf, typeInfo, hi, Builtin.lenOf, hroom, hf, Addr.add_lit, hst]
end
/-- v is a queue of fillings, in a block from base on -/
def QAt (W : World) (base : Nat) (v : Value) (qs : List (List Int)) : Prop :=
  (∀ q ∈ qs, q.length = 4) ∧ ∃ g off cap cur, v = .slice (some ⟨g, off, none⟩) qs.length cap ∧ base ≤ g ∧ W.heap[g]? = some (.cells cur 77 (0, 0)) ∧ qs.length ≤ cap ∧ cap ≤ maxLen ∧ off + cap * 4 ≤ cur.size ∧ (cur.toList.drop off).take (qs.length * 4) = qs.flatten.map encI
theorem flat4 : ∀ (qs : List (List Int)), (∀ q ∈ qs, q.length = 4) → qs.flatten.length = qs.length * 4
  | [], _ => rfl
  | q :: qs, h => by
    have h1 := h q (by simp)
    have h2 := flat4 qs (fun x hx => h x (List.mem_cons_of_mem _ hx))
    rw [List.flatten_cons, List.length_append, h1, h2, List.length_cons]; omega
theorem QAt.kept {W W' : World} {base : Nat} {v : Value} {qs : List (List Int)} (h : QAt W base v qs) {row : Option Nat} (hg : W.grownBy W' row) (hne : v.ownBlock ≠ row) : QAt W' base v qs := by
  obtain ⟨h4, g, off, cap, cur, rfl, hb, hh, r⟩ := h
  exact ⟨h4, g, off, cap, cur, rfl, hb, by rw [hg.block g (Array.getElem?_eq_some_iff.1 hh).1 (fun e => hne (by simp [Value.ownBlock, e]))]; exact hh, r⟩
/-- the first of the queue -/
theorem QAt.head {W : World} {base : Nat} {v : Value} {q : List Int} {qs : List (List Int)} (h : QAt W base v (q :: qs)) : ∃ g off cap, v = .slice (some ⟨g, off, none⟩) (qs.length + 1) cap ∧ qs.length + 1 ≤ cap ∧ ∀ i (hi : i < q.length), W.cell? ⟨g, off + i, none⟩ = some (.int .i64 q[i]) := by
  obtain ⟨h4, g, off, cap, cur, rfl, hb, hh, hc, hm, hs, ht⟩ := h
  refine ⟨g, off, cap, rfl, hc, fun i hi => ?_⟩
  rw [cell_of_row W g (off + i) _ _ _ hh]
  have hq := h4 q (by simp)
  have e := congrArg (fun l => l[i]?) ht
  simp only [List.flatten_cons, List.map_append] at e
  rw [List.getElem?_take, if_pos (by rw [List.length_cons]; omega), List.getElem?_drop, List.getElem?_append_left (by rw [List.length_map]; exact hi), List.getElem?_map, List.getElem?_eq_getElem hi] at e
  simpa [encI] using e
/-- without the first one -/
theorem QAt.tail {W : World} {base g off cap : Nat} {q : List Int} {qs : List (List Int)} (h : QAt W base (.slice (some ⟨g, off, none⟩) (qs.length + 1) cap) (q :: qs)) : QAt W base (.slice (some ⟨g, off + 4, none⟩) qs.length (cap - 1)) qs := by
  obtain ⟨h4, g', off', cap', cur, he, hb, hh, hc, hm, hs, ht⟩ := h
  cases he
  rw [List.length_cons] at hc ht
  refine ⟨fun x hx => h4 x (List.mem_cons_of_mem _ hx), g, off + 4, cap - 1, cur, rfl, hb, hh, by omega, by omega, by omega, ?_⟩
  have hq := h4 q (by simp)
  have e := congrArg (List.drop 4) ht
  rw [List.drop_take, List.drop_drop, List.flatten_cons, List.map_append, List.drop_append_of_le_length (by rw [List.length_map]; omega), List.drop_of_length_le (l := q.map encI) (by rw [List.length_map]; omega), List.nil_append, show (qs.length + 1) * 4 - 4 = qs.length * 4 by omega] at e
  exact e
theorem take_mid (A B C : List Value) (n : Nat) (h : n = A.length + B.length) : (A ++ (B ++ C)).take n = A ++ B := by
  subst h
  rw [List.take_length_add_append, List.take_left]
theorem info77 : (Try.prog.info? 77).map (fun i => (i.zero, i.size, i.bytes)) = some (some (.agg #[.int .i64 0, .int .i64 0, .int .i64 0, .int .i64 0]), 4, 32) := by kernel_rfl
/-- one more at the end -/
theorem QAt.push {W : World} {base : Nat} {v : Value} {qs : List (List Int)} (h : QAt W base v qs) (f : List Int) (hf : f.length = 4) (a : Addr) (c : Nat) (ha : ∀ j u, (f.map encI)[j]? = some u → W.cell? (a.add j) = some u) (hq : qs.length + 1 ≤ 1000000) (hbase : base ≤ W.heap.size) (ty : TypeId) :
    ∃ v' W', (Builtin.append_ #[102, 102] ty #[v, .slice (some a) 1 c]).run Try.prog W = .ok v' W' ∧ QAt W' base v' (qs ++ [f]) ∧ W.grownBy W' v.ownBlock ∧ (v'.ownBlock = v.ownBlock ∨ ∃ g, v'.ownBlock = some g ∧ W.heap.size ≤ g) := by
  obtain ⟨i0, hi, hz0, hz1, hz2⟩ := info_parts info77
  obtain ⟨h4, g, off, cap, cur, rfl, hb, hh, hc, hm, hs, ht⟩ := h
  have hfl : (f.map encI).length = 1 * i0.size := by rw [List.length_map, hz1]; omega
  have hfl4 : (f.map encI).length = 4 := by rw [List.length_map]; exact hf
  have h4' : ∀ q ∈ qs ++ [f], q.length = 4 := fun q hq => by
    rcases List.mem_append.1 hq with h | h
    · exact h4 q h
    · rw [List.mem_singleton.1 h]; exact hf
  have hone : ∀ u ∈ f.map encI, u.oneCell' = true := fun u hu => by
    obtain ⟨x, _, rfl⟩ := List.mem_map.1 hu
    simp [encI, Value.oneCell']
  have hflat : (qs ++ [f]).flatten.map encI = qs.flatten.map encI ++ f.map encI := by simp
  have hql : (qs.flatten.map encI).length = qs.length * 4 := by rw [List.length_map, flat4 qs h4]
  by_cases hroom : qs.length + 1 ≤ cap
  · have hr := run_append_room_off (P := Try.prog) W 102 ty 77 i0 Try.underlying102 hi g off qs.length cap cur hh a 1 c (f.map encI) hfl ha hone hroom (by rw [hz1, hfl4]; omega)
    refine ⟨_, _, hr, ⟨h4', g, off, cap, _, by rw [List.length_append]; rfl, hb, setRow_heap W g cur _ 77 _ hh, by rw [List.length_append]; exact hroom, hm, ?_, ?_⟩, ⟨rfl, rfl, rfl, by simp, fun k _ hk => setRow_other W g k _ (fun e => hk (by simp [Value.ownBlock, e]))⟩, .inl rfl⟩
    · simp only [List.size_toArray, List.length_append, List.length_take, List.length_drop, Array.length_toList, hfl4, hz1]
      omega
    · rw [List.length_append, List.length_singleton, hflat, ← ht, hz1]
      have hct : cur.toList.length = cur.size := Array.length_toList
      have hl1 : ((cur.toList.drop off).take (qs.length * 4)).length = qs.length * 4 := by rw [ht, hql]
      have e : ((cur.toList.take (off + qs.length * 4) ++ f.map encI ++ cur.toList.drop (off + qs.length * 4 + (f.map encI).length)).toArray.toList).drop off = (cur.toList.drop off).take (qs.length * 4) ++ (f.map encI ++ cur.toList.drop (off + qs.length * 4 + (f.map encI).length)) := by
        rw [List.append_assoc, List.drop_append_of_le_length (by rw [List.length_take, hct]; omega), List.drop_take, show off + qs.length * 4 - off = qs.length * 4 by omega]
      rw [e]
      exact take_mid _ _ _ _ (by rw [hl1, hfl4]; omega)
  · have holds : ∀ j u, (qs.flatten.map encI)[j]? = some u → W.cell? ((⟨g, off, none⟩ : Addr).add j) = some u := by
      intro j u hj
      rw [Go.WideShapes.add_plain, cell_of_row W g (off + j) _ _ _ hh]
      rw [← ht, List.getElem?_take, List.getElem?_drop] at hj
      split at hj
      · simpa using hj
      · cases hj
    have hr := run_append_grow (P := Try.prog) W 102 ty 77 i0 (.agg #[.int .i64 0, .int .i64 0, .int .i64 0, .int .i64 0]) Try.underlying102 hi hz0 ⟨g, off, none⟩ qs.length cap (qs.flatten.map encI) (by rw [hql, hz1]) holds a 1 c (f.map encI) hfl ha (by omega) (by omega) (growslice_fits (by omega) (by rw [hz2]; omega))
    have hge := grownCap_ge W (qs.length + 1) cap 77
    have hcm : grownCap W (qs.length + 1) cap 77 ≤ maxLen := grownCap_le_maxLen W (qs.length + 1) cap 77 (by unfold maxLen; omega)
    refine ⟨_, _, hr, ⟨h4', W.heap.size, 0, _, _, by rw [List.length_append]; rfl, hbase, heap_alloc_new W.drew _, by rw [List.length_append]; exact hge, hcm, ?_, ?_⟩, ⟨rfl, rfl, rfl, by simp, fun k hk _ => Below.heap_alloc W.drew _ k hk⟩, .inr ⟨_, rfl, Nat.le_refl _⟩⟩
    · simp only [Array.size_append, List.size_toArray, size_zeroCells, hql, hfl4]
      show 0 + _ ≤ qs.length * 4 + 4 + (grownCap W (qs.length + 1) cap 77 - (qs.length + 1)) * 4
      omega
    · rw [List.length_append, List.length_singleton, hflat, List.drop_zero]
      simp only [Array.toList_append]
      rw [List.take_append_of_le_length (by rw [List.length_append, hql, hfl4]; omega), List.take_of_length_le (by rw [List.length_append, hql, hfl4]; omega)]
end Go.Proofs.Ytlamppplnojpbaa
