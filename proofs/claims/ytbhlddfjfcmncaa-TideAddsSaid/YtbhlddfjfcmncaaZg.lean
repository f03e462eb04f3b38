import Derived.Test.YtbhlddfjfcmncaaYl
import Derived.Deep.AppendSrc
import Derived.Maps.OwnIn
import Derived.Maps.OwnSet
import Derived.RangeFuncNested
import Derived.RangeFuncBound
import Derived.RangeFuncCalls
import Derived.RangeFuncLeaves
import Derived.Shelf.Abstract
import Derived.Shelf.RegionOpen
import Derived.WalkKit
import Derived.OwnWalkIn
import Derived.TacticsInMore
import Derived.LoopNIn
import Derived.LoopIn
import Derived.WalkSpells
import Derived.WalkLawsBesides
import Derived.BigQuiet
import Derived.Deep.QuietTactic
import Derived.Lib.Hide
import Derived.Deep.RegionHeld3
import Derived.StillTailTactics
import Derived.Lib.MakeNoZero
import Derived.Laws.CopyOwn
import Derived.Deep.RegionLaw
import Derived.Deep.LoopGhost
import Derived.Deep.CutBlock
import Derived.Deep.DeepCutAuto
import Derived.Lib.IndexAny
namespace Go.Proofs.Ytbhlddfjfcmncaa
open Go.RowKit Go.Shelf
attribute [local go_sem] Oper.semAt_some
/-- append to a full row: a new row -/
theorem append_new (t e : TypeId) (z : Value) (y : Nat) (ht : Try.prog.underlying t = some (.slice e)) (hi : (Try.prog.info? e).map (fun i => (i.zero, i.size, i.bytes)) = some (some z, 1, y))
    (w : World) (b o n m b2 o2 c2 : Nat) (l1 l2 : List Value) (h1 : l1.length = n) (h2 : l2.length = m) (a1 : ∀ i (h : i < l1.length), w.cell? ⟨b, o + i, none⟩ = some l1[i]) (a2 : ∀ i (h : i < l2.length), w.cell? ⟨b2, o2 + i, none⟩ = some l2[i])
    (one : ∀ u ∈ l2, u.oneCell' = true) (hm : 1 ≤ m) (hb : n + m ≤ 1000000) (hy : y ≤ 8) :
    ∃ cap cs w', (∀ ty, (Builtin.append_ #[t, t] ty #[.slice (some ⟨b, o, none⟩) n n, .slice (some ⟨b2, o2, none⟩) m c2]).run Try.prog w = .ok (.slice (some ⟨w.heap.size, 0, none⟩) (n + m) cap) w') ∧ n + m ≤ cap ∧
      Row w' w.heap.size e (l1 ++ l2 ++ cs) ∧ Below w.heap.size w w' := by
  obtain ⟨i0, hi1, hz0, hz1, hz2⟩ := info_parts hi
  have ad : ∀ (b o i : Nat), (⟨b, o, none⟩ : Addr).add i = ⟨b, o + i, none⟩ := fun b o i => by unfold Addr.add; split <;> simp_all
  have g1 : ∀ j u, l1[j]? = some u → w.drew.cell? ((⟨b, o, none⟩ : Addr).add j) = some u := fun j u hj => by
    obtain ⟨hj1, hj2⟩ := List.getElem?_eq_some_iff.1 hj
    rw [ad, ← hj2]; exact a1 j hj1
  have g2 : ∀ j u, l2[j]? = some u → w.cell? ((⟨b2, o2, none⟩ : Addr).add j) = some u := fun j u hj => by
    obtain ⟨hj1, hj2⟩ := List.getElem?_eq_some_iff.1 hj
    rw [ad, ← hj2]; exact a2 j hj1
  have hs := Src.ofSlice (P := Try.prog) w (size := i0.size) (tx := t) ht ⟨b2, o2, none⟩ m c2 l2 (by rw [hz1]; omega) g2 one
  have hold := run_firstCells_some (P := Try.prog) w.drew i0.size n ⟨b, o, none⟩ n n l1 (by rw [hz1]; omega) g1
  have lt : n < n + m := by omega
  have hfit : Builtin.nextslicecap (n + m) n * i0.bytes ≤ 281474976710656 := by
    rw [hz2]
    have := nextslicecap_le lt
    have : Builtin.nextslicecap (n + m) n * y ≤ 2000000 * 8 := Nat.mul_le_mul (by omega) hy
    omega
  have hr := fun ty => run_append_grow_src (P := Try.prog) w t t ty e i0 z ht hi1 hz0 (some ⟨b, o, none⟩) n n l1 hold _ m l2 hs lt (by omega) hfit
  obtain ⟨cs, hcs⟩ : ∃ cs, cs = (Builtin.zeroCells z.cells (grownCap w (n + m) n e - (n + m))).toList := ⟨_, rfl⟩
  refine ⟨_, cs, _, hr, grownCap_ge w (n + m) n e, ?_, (Below.refl _ _).drew.alloc (Nat.le_refl _) _⟩
  have := Row.new w.drew e (l1 ++ l2 ++ cs)
  rw [hcs] at this ⊢
  have e1 : (l1 ++ l2 ++ (Builtin.zeroCells z.cells (grownCap w (n + m) n e - (n + m))).toList).toArray = (l1 ++ l2).toArray ++ Builtin.zeroCells z.cells (grownCap w (n + m) n e - (n + m)) := by
    apply Array.ext'; simp
  rw [e1] at this
  exact this
section
variable {P : Program} {w : World}
theorem wp_append_run {o : Oper} {a : Act} {K : Act → World → Prop} {Q : Exit → Act → World → Prop} (s x : Operand) (t : TypeId) (ho : o.op = .call { callee := .builtin .append, args := #[s, x], argTypes := #[t, t] })
    (v1 v2 v : Value) (w' : World) (hs : a.eval s = v1) (hx : a.eval x = v2) (hr : ∀ ty, (Builtin.append_ #[t, t] ty #[v1, v2]).run P w = .ok v w') (h : K (a.put o.dst v) w') : o.wp P a w K Q := by
  unfold Oper.wp execOp
  simp only [ho, resolve, invoke, builtin, Sem.run_bind, Sem.run_pure, Result.andThen_ok, List.map_toArray, List.map_cons, List.map_nil, hs, hx, hr]
  exact h
theorem wpList_append_run {ops : Array Oper} {rest : List Oper} {o : Oper} {a : Act} {Q : Exit → Act → World → Prop} (hgd : o.guard = none) (s x : Operand) (t : TypeId) (ho : o.op = .call { callee := .builtin .append, args := #[s, x], argTypes := #[t, t] })
    (v1 v2 v : Value) (w' : World) (hs : a.eval s = v1) (hx : a.eval x = v2) (hr : ∀ ty, (Builtin.append_ #[t, t] ty #[v1, v2]).run P w = .ok v w') (h : wpList P ops Q rest (a.put o.dst v) w') : wpList P ops Q (o :: rest) a w :=
  wpList_plain hgd fun _ hK => wp_append_run s x t ho v1 v2 v w' hs hx hr (hK _ _ h)
theorem step_append_run {ops : Array Oper} {o : Oper} {a : Act} {K : Act → World → Prop} {Q : Exit → Act → World → Prop} {E : Prop} (hgd : o.guard = none) (s x : Operand) (t : TypeId) (ho : o.op = .call { callee := .builtin .append, args := #[s, x], argTypes := #[t, t] })
    (v1 v2 v : Value) (w' : World) (hs : a.eval s = v1) (hx : a.eval x = v2) (hr : ∀ ty, (Builtin.append_ #[t, t] ty #[v1, v2]).run P w = .ok v w') (h : K (a.put o.dst v) w') :
    if Region.wanted o (yielded ops a.tmps) = true then Oper.wp P o a w K Q else E := by
  have hw : Region.wanted o (yielded ops a.tmps) = true := by simp [Region.wanted, hgd]
  rw [if_pos hw]
  exact wp_append_run s x t ho v1 v2 v w' hs hx hr h
end
theorem row_cells {w : World} {g : Nat} {e : TypeId} {vs rest : List Value} (h : Row w g e (vs ++ rest)) (i : Nat) (hi : i < vs.length) : w.cell? ⟨g, i, none⟩ = some vs[i] := by
  rw [h.cell, List.getElem?_append_left hi]; simp
set_option maxRecDepth 100000 in
set_option maxHeartbeats 1000000 in
theorem repeat_zero (b c1 : Nat) (w : World) :
    Calls Try.prog 69 #[.slice (some ⟨b, 0, none⟩) 1 c1, .int .i64 0] w fun e w' => e = .returned (.slice (some ⟨w.heap.size, 0, none⟩) 0 0) ∧ Below w.heap.size w w' := by
  go_enter Try.func69, Try.ntmps69
  go_wp2_with fail
  go_ret
  exact ⟨rfl, (Below.refl _ _).alloc (Nat.le_refl _) _⟩
theorem repeat_any (b c1 n : Nat) (c : UInt8) (w : World) (hn2 : n ≤ 8192) (hc : w.cell? ⟨b, 0, none⟩ = some (encB c)) :
    Calls Try.prog 69 #[.slice (some ⟨b, 0, none⟩) 1 c1, .int .i64 n] w fun e w' => ∃ g, e = .returned (.slice (some ⟨g, 0, none⟩) n n) ∧ w.heap.size ≤ g ∧ (∀ i, i < n → w'.cell? ⟨g, i, none⟩ = some (encB c)) ∧ Below w.heap.size w w' := by
  rcases Nat.eq_zero_or_pos n with rfl | hn
  · refine (repeat_zero b c1 w).mono ?_
    rintro e w' ⟨rfl, hb⟩
    exact ⟨_, rfl, Nat.le_refl _, fun i hi => by omega, hb⟩
  · refine (repeat_one b c1 n c w hn hn2 hc).mono ?_
    rintro e w' ⟨g, rest, rfl, hg, hrow, hb⟩
    exact ⟨g, rfl, hg, fun i hi => by rw [hrow.cell i (by simpa using hi)]; simp, hb⟩
end Go.Proofs.Ytbhlddfjfcmncaa
