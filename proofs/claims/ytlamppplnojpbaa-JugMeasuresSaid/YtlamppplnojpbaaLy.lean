import Derived.Test.YtlamppplnojpbaaLx
import Derived.Laws.AppendOwn
import Derived.ChangeKeysEq
import Derived.Maps.RangeWalk
import Derived.Maps.OwnIn
import Derived.Maps.AppendAt
import Derived.RangeFuncNested
import Derived.RangeFuncBound
import Derived.RangeFuncCalls
import Derived.RangeFuncLeaves
import Derived.Shelf.Abstract
import Derived.Shelf.RegionOpen
import Derived.WalkKit
import Derived.WalkMore
import Derived.OwnWalkIn
import Derived.TacticsInMore
import Derived.LoopNIn
import Derived.LoopIn
import Derived.WalkSpells
import Derived.WalkLawsBesides
import Derived.BigQuiet
import Derived.Deep.QuietTactic
import Derived.Lib.Hide
import Derived.Deep.RegionHeld3
import Derived.StillTailTactics
import Derived.Deep.LoopGhost
import Derived.Maps.OwnSet
import Derived.Lib.IndexAny
import Derived.Sort.QuietThIn
import Derived.Sort.QuietTacIn
import Derived.Sort.BigQuietIn
import Derived.Laws.OwnMore
namespace Go.Proofs.Ytlamppplnojpbaa
open Go.RowKit Go.Shelf
attribute [local go_sem] Oper.semAt_some
theorem IntsAt.block {W W' : World} {b : Nat} {f : List Int} (h : IntsAt W b 0 f) (e : W'.heap[b]? = W.heap[b]?) (hb : b < W'.heap.size) : IntsAt W' b 0 f :=
  ⟨.inr hb, fun i hi => (World.cell?_of_block (a := ⟨b, 0 + i, none⟩) e).trans (h.at_ i hi)⟩
/-- an entry of the list of fillings: a slice that was there before, or one of its own -/
def Ent (n0 bo : Nat) (W : World) (u : Value) (f : List Int) : Prop :=
  ∃ b c, u = .slice (some ⟨b, 0, none⟩) f.length c ∧ f.length ≤ c ∧ IntsAt W b 0 f ∧ b < W.heap.size ∧ (b < n0 ∨ (bo < b ∧ ∃ cur, W.heap[b]? = some (.cells cur 3 (0, 0))))
theorem Ent.kept {n0 bo r : Nat} {W W' : World} {u : Value} {f : List Int} (h : Ent n0 bo W u f) (hg : W.grownBy W' (some r)) (h0 : n0 ≤ bo) (hr : r = bo ∨ (n0 ≤ r ∧ ∃ cur, W.heap[r]? = some (.cells cur 22 (0, 0)))) : Ent n0 bo W' u f := by
  obtain ⟨b, c, rfl, hc, hi, hlt, ho⟩ := h
  have hne : b ≠ r := fun e => by
    subst e
    rcases hr with rfl | ⟨h1, cur, h2⟩
    · rcases ho with h | ⟨h, _⟩ <;> omega
    · rcases ho with h | ⟨_, cur', h3⟩
      · omega
      · rw [h2] at h3; cases h3
  have e := hg.block b hlt (fun e => hne (by cases e; rfl))
  have hlt' : b < W'.heap.size := Nat.lt_of_lt_of_le hlt hg.size
  exact ⟨b, c, rfl, hc, hi.block e hlt', hlt', ho.imp id fun ⟨h1, cur, h2⟩ => ⟨h1, cur, e.trans h2⟩⟩
theorem Ent.grow {n0 bo : Nat} {W W' : World} {u : Value} {f : List Int} (h : Ent n0 bo W u f) (hb : Below W.heap.size W W') : Ent n0 bo W' u f := by
  obtain ⟨b, c, rfl, hc, hi, hlt, ho⟩ := h
  have e := hb.block b hlt
  have hlt' : b < W'.heap.size := Nat.lt_of_lt_of_le hlt hb.size
  exact ⟨b, c, rfl, hc, hi.block e hlt', hlt', ho.imp id fun ⟨h1, cur, h2⟩ => ⟨h1, cur, e.trans h2⟩⟩
theorem Ent.sli {n0 bo : Nat} {W : World} {u : Value} {f : List Int} (h : Ent n0 bo W u f) : SlI W u f := by
  obtain ⟨b, c, rfl, hc, hi, hlt, _⟩ := h
  exact ⟨_, c, rfl, hc, .inr ⟨b, 0, rfl, hlt, hi⟩⟩
theorem Ent.new {n0 bo : Nat} {W0 W : World} {u : Value} {f : List Int} {k : Nat} (h : W.ownsRow W0.heap.size 3 1 u k (f.map encI)) (hf : f ≠ []) (hb : bo < W0.heap.size) : Ent n0 bo W u f := by
  have hk : k = f.length := by have := h.1; rw [List.length_map] at this; omega
  subst hk
  obtain ⟨g, cap, rfl, hlt, hi⟩ := own_ints h hf
  rcases h.2 with ⟨h1, _⟩ | ⟨g', cap', cur, h1, h2, h3, h4, h5⟩
  · cases h1
  · cases h1
    exact ⟨g, cap, rfl, h4, hi, hlt, .inr ⟨by omega, cur, h3⟩⟩
/-- the list of fillings -/
def LstW (n0 bo : Nat) (W : World) (lv : Value) (L : List (List Int)) : Prop :=
  ∃ us, W.ownsRow n0 22 1 lv L.length us ∧ us.length = L.length ∧ ∀ i (h : i < L.length), ∃ u, us[i]? = some u ∧ Ent n0 bo W u L[i]
theorem LstW.grow {n0 bo : Nat} {W W' : World} {lv : Value} {L : List (List Int)} (h : LstW n0 bo W lv L) (hb : Below W.heap.size W W') : LstW n0 bo W' lv L := by
  obtain ⟨us, h1, h2, h3⟩ := h
  exact ⟨us, own_grow h1 hb, h2, fun i hi => let ⟨u, e, hu⟩ := h3 i hi; ⟨u, e, hu.grow hb⟩⟩
theorem LstW.stored {n0 bo : Nat} {W W' : World} {lv : Value} {L : List (List Int)} {k : Nat} {xs : List Value} {c : Nat} (h : LstW n0 bo W lv L) (h0 : n0 ≤ bo) (ho : W.ownsRow n0 3 1 (.slice (some ⟨bo, 0, none⟩) k c) k xs) (hg : W.grownBy W' (some bo)) : LstW n0 bo W' lv L := by
  obtain ⟨us, h1, h2, h3⟩ := h
  exact ⟨us, h1.kept hg (own_differ h1 ho (by decide)), h2, fun i hi => let ⟨u, e, hu⟩ := h3 i hi; ⟨u, e, hu.kept hg h0 (.inl rfl)⟩⟩
theorem LstW.one {n0 : Nat} (W : World) (bo : Nat) (u : Value) (f : List Int) (hn : n0 ≤ W.heap.size) (h : Ent n0 bo W u f) : LstW n0 bo (W.alloc (.cells #[u] 22)) (.slice (some ⟨W.heap.size, 0, none⟩) 1 1) [f] := by
  refine ⟨[u], World.ownsRow_lit W #[u] 1 hn (by decide) rfl, rfl, fun i hi => ?_⟩
  have : i = 0 := by simp at hi; omega
  subst this
  exact ⟨u, rfl, h.grow (Below.al (Below.refl _ _) (Nat.le_refl _) _)⟩
theorem LstW.push {n0 bo : Nat} {W W' : World} {lv v' gu : Value} {L : List (List Int)} {g : List Int} {us : List Value} {o : Obj} (h1 : W.ownsRow n0 22 1 lv L.length us) (h2 : us.length = L.length) (h3 : ∀ i (h : i < L.length), ∃ u, us[i]? = some u ∧ Ent n0 bo W u L[i]) (h0 : n0 ≤ bo) (hgu : Ent n0 bo W gu g)
    (hown : W'.ownsRow n0 22 1 v' (L.length + 1) (us ++ [gu])) (hg : (W.alloc o).grownBy W' lv.ownBlock) (hl : 0 < L.length) : LstW n0 bo W' v' (L ++ [g]) := by
  have hal : Below W.heap.size W (W.alloc o) := Below.al (Below.refl _ _) (Nat.le_refl _) _
  obtain ⟨r, cap, cur, rfl, hr0, hr1, _⟩ : ∃ r cap cur, lv = .slice (some ⟨r, 0, none⟩) L.length cap ∧ n0 ≤ r ∧ W.heap[r]? = some (.cells cur 22 (0, 0)) ∧ True := by
    rcases h1.2 with ⟨_, h⟩ | ⟨r, cap, cur, e, a, b, _⟩
    · omega
    · exact ⟨r, cap, cur, e, a, b, trivial⟩
  have hrl : r < W.heap.size := by
    rcases Nat.lt_or_ge r W.heap.size with h | h
    · exact h
    · rw [Array.getElem?_eq_none h] at hr1; cases hr1
  have hr2 : (W.alloc o).heap[r]? = some (.cells cur 22 (0, 0)) := (hal.block r hrl).trans hr1
  have hkeep : ∀ u f, Ent n0 bo W u f → Ent n0 bo W' u f := fun u f h => (h.grow hal).kept hg h0 (.inr ⟨hr0, cur, hr2⟩)
  refine ⟨us ++ [gu], by rw [List.length_append]; exact hown, by simp [h2], fun i hi => ?_⟩
  rw [List.length_append, List.length_singleton] at hi
  by_cases hil : i < L.length
  · obtain ⟨u, e, hu⟩ := h3 i hil
    exact ⟨u, by rw [List.getElem?_append_left (by omega)]; exact e, by rw [List.getElem_append_left hil]; exact hkeep u _ hu⟩
  · have : i = L.length := by omega
    subst this
    refine ⟨gu, by rw [← h2, List.getElem?_append_right (by omega)]; simp, ?_⟩
    rw [List.getElem_append_right (by omega)]
    simpa using hkeep gu g hgu
theorem LstW.sls {n0 bo : Nat} {W : World} {lv : Value} {L : List (List Int)} (h : LstW n0 bo W lv L) (hl : 0 < L.length) : SlS W lv L := by
  obtain ⟨us, h1, h2, h3⟩ := h
  rcases h1.2 with ⟨_, h⟩ | ⟨r, cap, cur, rfl, a, b, c, _⟩
  · omega
  · refine ⟨_, cap, rfl, c, .inr ⟨r, 0, rfl, ?_, fun i hi => ?_⟩⟩
    · rcases Nat.lt_or_ge r W.heap.size with h | h
      · exact h
      · rw [Array.getElem?_eq_none h] at b; cases b
    · obtain ⟨u, e, hu⟩ := h3 i hi
      exact ⟨u, by rw [Nat.zero_add, h1.cellAt i (by omega)]; exact e, hu.sli⟩
theorem LstW.cell {n0 bo r cap : Nat} {W : World} {L : List (List Int)} (h : LstW n0 bo W (.slice (some ⟨r, 0, none⟩) L.length cap) L) (i : Nat) (hi : i < L.length) : ∃ u, W.cell? ⟨r, i, none⟩ = some u ∧ Ent n0 bo W u L[i] := by
  obtain ⟨us, h1, h2, h3⟩ := h
  obtain ⟨u, e, hu⟩ := h3 i hi
  exact ⟨u, by rw [h1.cellAt i (by omega)]; exact e, hu⟩
theorem LstW.open {n0 bo : Nat} {W : World} {lv : Value} {L : List (List Int)} (h : LstW n0 bo W lv L) (hl : 0 < L.length) : ∃ r cap, lv = .slice (some ⟨r, 0, none⟩) L.length cap ∧ L.length ≤ cap := by
  obtain ⟨us, h1, h2, h3⟩ := h
  rcases h1.2 with ⟨_, h⟩ | ⟨r, cap, cur, e, _, _, c, _⟩
  · omega
  · exact ⟨r, cap, e, c⟩
end Go.Proofs.Ytlamppplnojpbaa
