import Derived.Test.YtlamppplnojpbaaJk
import Derived.Laws.AppendOwn
import Derived.Maps.OwnIn
import Derived.Maps.AppendAt
import Derived.RangeFuncNested
import Derived.RangeFuncBound
import Derived.RangeFuncCalls
import Derived.RangeFuncLeaves
import Derived.Shelf.Abstract
import Derived.Shelf.RegionOpen
import Derived.WalkKit
import Derived.WalkMore
import Derived.OwnWalkIn
import Derived.TacticsInMore
import Derived.LoopNIn
import Derived.LoopIn
import Derived.WalkSpells
import Derived.WalkLawsBesides
import Derived.BigQuiet
import Derived.Deep.QuietTactic
import Derived.Lib.Hide
import Derived.Deep.RegionHeld3
import Derived.StillTailTactics
import Derived.Deep.LoopGhost
import Derived.Maps.OwnSet
import Derived.Lib.IndexAny
import Derived.Sort.QuietThIn
import Derived.Sort.QuietTacIn
import Derived.Sort.BigQuietIn
namespace Go.Proofs.Ytlamppplnojpbaa
open Go.RowKit Go.Shelf
attribute [local go_sem] Oper.semAt_some
theorem six_set (W : World) (b : Nat) (v0 v1 v2 v3 v4 v5 : Value) : W.grownBy ((((((W.setCell ⟨b, 0, none⟩ v0).setCell ⟨b, 1, none⟩ v1).setCell ⟨b, 2, none⟩ v2).setCell ⟨b, 3, none⟩ v3).setCell ⟨b, 4, none⟩ v4).setCell ⟨b, 5, none⟩ v5) (some b) := by
  have one : ∀ (W : World) (i : Nat) (v : Value), W.grownBy (W.setCell ⟨b, i, none⟩ v) (some b) := fun W i v => ⟨rfl, rfl, rfl, (KeepsWalks.setCell W _ v).size, fun k _ hk => Below.heap_setCell _ _ _ k (fun e => hk (by rw [e]))⟩
  exact (((((one _ _ _).trans (one _ _ _)).trans (one _ _ _)).trans (one _ _ _)).trans (one _ _ _)).trans (one _ _ _)
theorem one_set (W : World) (b i : Nat) (v : Value) : W.grownBy (W.setCell ⟨b, i, none⟩ v) (some b) :=
  ⟨rfl, rfl, rfl, (KeepsWalks.setCell W _ v).size, fun k _ hk => Below.heap_setCell _ _ _ k (fun e => hk (by rw [e]))⟩
theorem Row.kept {W W' : World} {g : Nat} {E : TypeId} {vs : List Value} {row : Option Nat} (h : Row W g E vs) (hg : W.grownBy W' row) (hne : some g ≠ row) : Row W' g E vs := by
  show W'.heap[g]? = _
  rw [hg.block g h.lt hne]
  exact h
theorem SrB.kept {W W' : World} {N S r : Nat} {F : List Int} {fd fg : Value} (h : SrB W N S F fd fg) (hg : W.grownBy W' (some r)) (hr : S < r) : SrB W' N S F fd fg := by
  have hS := h.hS
  exact ⟨h.r0.kept hg (fun e => by have := Option.some.inj e; omega), h.r1.kept hg (fun e => by have := Option.some.inj e; omega), h.r2.kept hg (fun e => by have := Option.some.inj e; omega), h.r3.kept hg (fun e => by have := Option.some.inj e; omega), h.rS.kept hg (fun e => by have := Option.some.inj e; omega), hS⟩
/-- the first of the queue is taken -/
theorem lp_pop {w W : World} {S R : Nat} {F : List Int} {fd fg : Value} {P : List Int} {k : Nat} {A : Sn} {q0 q1 q2 q3 : Int} {qs : List (List Int)} {g off cap : Nat}
    (h : Lp w S R F fd fg P k A ([q0, q1, q2, q3] :: qs) (.slice (some ⟨g, off, none⟩) (qs.length + 1) cap) W) (off' cap' : Nat) (ho : (1 < cap ∧ off' = off + 4 ∧ cap' = cap - 1) ∨ (cap = 1 ∧ off' = off ∧ cap' = 0)) :
    Lp w S R F fd fg P k A qs (.slice (some ⟨g, off', none⟩) qs.length cap') ((W.alloc (.cells #[.int .i64 q0, .int .i64 q1, .int .i64 q2, .int .i64 q3] 77)).setCell ⟨R + 1 + 1, 0, none⟩ (.slice (some ⟨g, off', none⟩) qs.length cap')) ∧
    Row ((W.alloc (.cells #[.int .i64 q0, .int .i64 q1, .int .i64 q2, .int .i64 q3] 77)).setCell ⟨R + 1 + 1, 0, none⟩ (.slice (some ⟨g, off', none⟩) qs.length cap')) W.heap.size 77 [.int .i64 q0, .int .i64 q1, .int .i64 q2, .int .i64 q3] ∧
    ((W.alloc (.cells #[.int .i64 q0, .int .i64 q1, .int .i64 q2, .int .i64 q3] 77)).setCell ⟨R + 1 + 1, 0, none⟩ (.slice (some ⟨g, off', none⟩) qs.length cap')).heap.size = W.heap.size + 1 := by
  have hq : QAt W 0 (.slice (some ⟨g, off', none⟩) qs.length cap') qs := by
    rcases ho with ⟨h1, rfl, rfl⟩ | ⟨h1, rfl, rfl⟩
    · exact h.q.tail
    · obtain ⟨h4, g', o', c', cur, he, hb, hh, hc, hm, hs, ht⟩ := h.q
      cases he
      rw [List.length_cons] at hc
      have hz : qs = [] := List.length_eq_zero_iff.1 (by omega)
      subst hz
      exact ⟨fun x hx => (by cases hx), g, off', 0, cur, rfl, hb, hh, Nat.le_refl _, Nat.zero_le _, by omega, by simp⟩
  have hap := h.ap g rfl
  have r7 := Row.new W 77 [.int .i64 q0, .int .i64 q1, .int .i64 q2, .int .i64 q3]
  have b0 := (Below.refl W.heap.size W).alloc (Nat.le_refl _) (.cells #[.int .i64 q0, .int .i64 q1, .int .i64 q2, .int .i64 q3] 77)
  have z0 := size_al W (.cells #[.int .i64 q0, .int .i64 q1, .int .i64 q2, .int .i64 q3] 77)
  have hRl := h.rQ.lt
  have hR := h.hR
  generalize W.alloc (.cells #[.int .i64 q0, .int .i64 q1, .int .i64 q2, .int .i64 q3] 77) = W2 at *
  have rQ2 := (h.rQ.below b0 hRl).set 0 (.slice (some ⟨g, off', none⟩) qs.length cap')
  have G := one_set W2 (R + 1 + 1) 0 (.slice (some ⟨g, off', none⟩) qs.length cap')
  have zz : (W2.setCell ⟨R + 1 + 1, 0, none⟩ (.slice (some ⟨g, off', none⟩) qs.length cap')).heap.size = W2.heap.size := by simp
  generalize W2.setCell ⟨R + 1 + 1, 0, none⟩ (.slice (some ⟨g, off', none⟩) qs.length cap') = W3 at *
  have g0 : W.grownBy W2 none := ⟨b0.os, b0.tape, b0.output, b0.size, fun k hk _ => b0.block k hk⟩
  have hN := h.b.hS
  have hl := h.len
  rw [List.length_cons] at hl
  refine ⟨⟨(h.b.below b0 h.b.rS.lt).kept G (by omega), (h.rR.below b0 (by omega)).kept G (fun e => by have := Option.some.inj e; omega), rQ2, (hq.kept g0 (by simp [Value.ownBlock])).kept G (fun e => by simp [Value.ownBlock] at e; omega), fun g2 hg2 => ?_, (h.sn.grow b0).kept G (fun e => by have := Option.some.inj e; omega),
    (Below.andThen h.bw b0 (Nat.le_refl _)).grown G (Nat.le_trans h.bw.size b0.size) (fun k e => by have := Option.some.inj e; have := h.bw.size; omega), hR, ⟨hl.1, by omega⟩, h.okA, fun q hq => h.okQ q (List.mem_cons_of_mem _ hq)⟩, Row.kept r7 G (fun e => by have := Option.some.inj e; omega), by rw [zz, z0]⟩
  simp only [Value.ownBlock, Option.map_some, Option.some.injEq] at hg2
  subst hg2
  exact hap
end Go.Proofs.Ytlamppplnojpbaa
