import Derived.Test.YtlemipnplgbckaaBR
import Derived.Test.YtlemipnplgbckaaBN
import Derived.Laws.AppendOwn
import Derived.ChangeKeysEq
import Derived.Maps.RangeWalk
import Derived.Maps.OwnIn
import Derived.Maps.AppendAt
import Derived.RangeFuncNested
import Derived.RangeFuncBound
import Derived.RangeFuncCalls
import Derived.RangeFuncLeaves
import Derived.Shelf.Abstract
import Derived.Shelf.RegionOpen
import Derived.WalkKit
import Derived.WalkMore
import Derived.OwnWalkIn
import Derived.TacticsInMore
import Derived.LoopNIn
import Derived.LoopIn
import Derived.WalkSpells
import Derived.WalkLawsBesides
import Derived.BigQuiet
import Derived.Deep.QuietTactic
import Derived.Lib.Hide
import Derived.Deep.RegionHeld3
import Derived.StillTailTactics
import Derived.Deep.LoopGhost
import Derived.Maps.OwnSet
import Derived.Lib.IndexAny
import Derived.Sort.QuietThIn
import Derived.Sort.QuietTacIn
import Derived.Sort.BigQuietIn
import Derived.Laws.OwnMore
import Derived.DeepKeys4
import Derived.Maps.Views
import Derived.Maps.OwnOps
import Derived.Laws.OwnMore
import Derived.Deep.DeepCutAuto
import Derived.ChangeKeysEq
namespace Go.Proofs.Ytlemipnplgbckaa
open Go.RowKit Go.Shelf
attribute [local go_sem] Oper.semAt_some
/-- blocks of circles, and boxes of lists of them -/
def isC : Obj → Bool
  | .cells _ T _ => T == 30 || T == 78
  | _ => false
/-- all other blocks lie as they lay -/
structure KeepsX (W W' : World) : Prop where
  size : W.heap.size ≤ W'.heap.size
  same : ∀ (k : Nat) (o : Obj), W.heap[k]? = some o → isC o = false → W'.heap[k]? = some o
theorem KeepsX.refl (W : World) : KeepsX W W := ⟨Nat.le_refl _, fun _ _ h _ => h⟩
theorem KeepsX.trans {X Y Z : World} (h : KeepsX X Y) (k : KeepsX Y Z) : KeepsX X Z := ⟨Nat.le_trans h.size k.size, fun i o hi ho => k.same i o (h.same i o hi ho) ho⟩
theorem KeepsX.of_below {X Y : World} (h : Below X.heap.size X Y) : KeepsX X Y := ⟨h.size, fun i _ hi _ => (h.block i (Array.getElem?_eq_some_iff.1 hi).1).trans hi⟩
theorem KeepsX.of_grown {X Y : World} {row : Option Nat} (hg : X.grownBy Y row) (hr : ∀ r, row = some r → ∃ o, X.heap[r]? = some o ∧ isC o = true) : KeepsX X Y := ⟨hg.size, fun i o hi ho =>
  (hg.block i (Array.getElem?_eq_some_iff.1 hi).1 (fun e => by
    obtain ⟨o', h1, h2⟩ := hr i e.symm
    rw [hi] at h1; cases h1; rw [ho] at h2; cases h2)).trans hi⟩
theorem KeepsX.its {X Y : World} (h : KeepsX X Y) (B : Nat) : KeepsI B X Y := fun i o _ hi ho => h.same i o hi (by
  cases o with
  | cells cs T z =>
    simp only [isIt, isC] at ho ⊢
    by_cases e1 : T = 30
    · subst e1; simp at ho
    · by_cases e2 : T = 78
      · subst e2; simp at ho
      · simp [e1, e2]
  | _ => rfl)
theorem KeepsX.from_ {X Y : World} (h : KeepsX X Y) (B : Nat) : KeepsFrom B X Y := ⟨h.size, fun k o _ hk ho => h.same k o hk (by
  cases o with
  | cells cs T z => simp [Obj.isCells] at ho
  | _ => rfl)⟩
theorem KeepsX.row {X Y : World} (h : KeepsX X Y) {b : Nat} {E : TypeId} {vs : List Value} (hE : (E == 30 || E == 78) = false) (r : Row X b E vs) : Row Y b E vs := h.same b _ r hE
/-- a list of circles in a box -/
structure ListC (w : World) (L : Nat) (cs : List Cir) (v : Value) (W : World) : Prop where
  row : Row W L 78 [v]
  own : W.ownsRow (L + 1) 30 4 v cs.length (flatC cs)
  bw : Below w.heap.size w W
  hL : w.heap.size ≤ L
theorem ListC.below {w : World} {L : Nat} {cs : List Cir} {v : Value} {W W' : World} (h : ListC w L cs v W) (hb : Below W.heap.size W W') : ListC w L cs v W' :=
  ⟨h.row.below hb h.row.lt, lasts_owns W.heap.size _ _ _ _ _ _ W W' none h.own ⟨hb.os, hb.tape, hb.output, hb.size, fun k hk _ => hb.block k hk⟩ (fun r e => by cases e), Below.andThen h.bw hb (Nat.le_refl _), h.hL⟩
theorem lasts_listC (B : Nat) (w : World) (L : Nat) (cs : List Cir) (v : Value) (hB : w.heap.size ≤ B) : Lasts B (fun W => ListC w L cs v W) := fun W W' row hi hg hr =>
  ⟨lasts_row B _ _ _ W W' row hi.row hg hr, lasts_owns B _ _ _ _ _ _ W W' row hi.own hg hr, lasts_below B _ w hB (Nat.le_refl _) W W' row hi.bw hg hr, hi.hL⟩
theorem appendC_run {F : Fence} {nF : Nat} {P : Program} {w : World} {ops : Array Oper} {rest : List Oper} {o : Oper} {a : Act} {Q : Exit → Act → World → Prop} (hgd : o.guard = none) (s x : Operand) (t : TypeId) (ho : o.op = .call { callee := .builtin .append, args := #[s, x], argTypes := #[t, t] })
    (v1 v2 v : Value) (w' : World) (hs : a.eval s = v1) (hx : a.eval x = v2) (hr : (Builtin.append_ #[t, t] o.type #[v1, v2]).run P w = .ok v w') (h : wpListIn F nF P ops Q rest (a.put o.dst v) w') : wpListIn F nF P ops Q (o :: rest) a w := by
  refine wpListIn_plain hgd fun K hK => ?_
  unfold Oper.wpIn
  refine ⟨by simp [Oper.about, ho, resolve, Target.leads, Sem.run_pure], ?_⟩
  rw [Oper.semAt_plain F _ _ (by rw [ho]; intro c hc'; cases hc')]
  simp [execOp, ho, resolve, invoke, builtin, hs, hx, hr, Result.andThen]
  exact hK _ _ h
/-- one circle more -/
theorem ListC.add {w W : World} {L g : Nat} {cs : List Cir} {v : Value} {c : Cir} (h : ListC w L cs v W) (rn : Row W g 30 [.int .i64 c.X, .int .i64 c.Y, .int .i64 c.D, .int .i64 c.R]) (hl : cs.length + 1 ≤ 1000000) :
    ∃ a2 n2 c2 W2, (Builtin.append_ #[78, 78] 78 #[v, .slice (some ⟨g, 0, none⟩) 1 1]).run Try.prog W = .ok (.slice a2 n2 c2) W2 ∧ Row W2 L 78 [v] ∧ ListC w L (cs ++ [c]) (.slice a2 n2 c2) (W2.setCell ⟨L, 0, none⟩ (.slice a2 n2 c2)) ∧ KeepsX W (W2.setCell ⟨L, 0, none⟩ (.slice a2 n2 c2)) := by
  obtain ⟨i0, hi, hz0, hz1, hz2⟩ := info_parts info30
  have hLt := h.row.lt
  obtain ⟨v', W2, hap, ho2, hg2, _, hblk⟩ := run_append_own_at (P := Try.prog) (w := W) (L + 1) 78 78 30 i0 (.agg #[.int .i64 0, .int .i64 0, .int .i64 0, .int .i64 0]) 4 32 Try.underlying78 hi hz0 hz1 hz2 rfl (by decide) v cs.length (flatC cs) h.own
    ⟨g, 0, none⟩ 1 1 [.int .i64 c.X, .int .i64 c.Y, .int .i64 c.D, .int .i64 c.R] rfl (fun j u hj => by rw [Go.WideShapes.add_plain]; simp only [Nat.zero_add]; rw [Row.cell rn]; exact hj) (by simp [Value.oneCell']) (by unfold maxLen; omega) (by omega) (by omega)
  have hob : ∀ r, v.ownBlock = some r → L + 1 ≤ r ∧ ∃ cur, W.heap[r]? = some (.cells cur 30 (0, 0)) := fun r e => by
    rcases h.own.2 with ⟨rfl, _⟩ | ⟨g', cap, cur, rfl, h1, h2, _⟩
    · cases e
    · have e2 := Option.some.inj e
      subst e2; exact ⟨h1, cur, h2⟩
  have r2 : Row W2 L 78 [v] := h.row.kept hg2 (fun e => by have := (hob L e.symm).1; omega)
  have gs := grown_set W2 ⟨L, 0, none⟩ v'
  have r3 : Row (W2.setCell ⟨L, 0, none⟩ v') L 78 [v'] := r2.set 0 v'
  have b2 : Below w.heap.size w W2 := h.bw.grown hg2 h.bw.size (fun k e => by have := (hob k e).1; have := h.hL; omega)
  obtain ⟨a2, n2, c2, rfl⟩ : ∃ a2 n2 c2, v' = .slice a2 n2 c2 := by
    rcases ho2.2 with ⟨e, _⟩ | ⟨g2, cap, cur, e, _⟩
    · exact ⟨_, _, _, e⟩
    · exact ⟨_, _, _, e⟩
  refine ⟨a2, n2, c2, W2, hap, r2, ⟨r3, ?_, b2.grown gs b2.size (fun k e => by cases e; exact h.hL), h.hL⟩, ?_⟩
  · rw [List.length_append, List.length_singleton, flatC_snoc]
    rcases ho2 with ⟨hlen, hh⟩
    refine ⟨hlen, ?_⟩
    rcases hh with ⟨e, h0⟩ | ⟨g2, cap, cur, e, h1, h2, h3⟩
    · omega
    · exact .inr ⟨g2, cap, cur, e, h1, (gs.block g2 (Array.getElem?_eq_some_iff.1 h2).1 (fun e => by have e2 : g2 = L := Option.some.inj e; omega)).trans h2, h3⟩
  · refine (KeepsX.of_grown hg2 (fun r e => by obtain ⟨_, cur, hc⟩ := hob r e; exact ⟨_, hc, rfl⟩)).trans (KeepsX.of_grown gs (fun r e => by cases e; exact ⟨_, r2, rfl⟩))
end Go.Proofs.Ytlemipnplgbckaa
