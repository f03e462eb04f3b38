import Derived.Test.YtlemipnplgbckaaPP
import Derived.Test.YtlemipnplgbckaaPO
import Derived.Laws.AppendOwn
import Derived.ChangeKeysEq
import Derived.Maps.RangeWalk
import Derived.Maps.OwnIn
import Derived.Maps.AppendAt
import Derived.RangeFuncNested
import Derived.RangeFuncBound
import Derived.RangeFuncCalls
import Derived.RangeFuncLeaves
import Derived.Shelf.Abstract
import Derived.Shelf.RegionOpen
import Derived.WalkKit
import Derived.WalkMore
import Derived.OwnWalkIn
import Derived.TacticsInMore
import Derived.LoopNIn
import Derived.LoopIn
import Derived.WalkSpells
import Derived.WalkLawsBesides
import Derived.BigQuiet
import Derived.Deep.QuietTactic
import Derived.Lib.Hide
import Derived.Deep.RegionHeld3
import Derived.StillTailTactics
import Derived.Deep.LoopGhost
import Derived.Maps.OwnSet
import Derived.Lib.IndexAny
import Derived.Sort.QuietThIn
import Derived.Sort.QuietTacIn
import Derived.Sort.BigQuietIn
import Derived.Laws.OwnMore
import Derived.DeepKeys4
import Derived.Maps.Views
import Derived.Maps.OwnOps
import Derived.Laws.OwnMore
import Derived.Deep.DeepCutAuto
import Derived.ChangeKeysEq
namespace Go.Proofs.Ytlemipnplgbckaa
open Go.RowKit Go.Shelf
attribute [local go_sem] Oper.semAt_some
section
variable {P : Program} {w : World}
theorem wpList_append_run {ops : Array Oper} {rest : List Oper} {o : Oper} {a : Act} {Q : Exit → Act → World → Prop} (hgd : o.guard = none) (s x : Operand) (t : TypeId) (ho : o.op = .call { callee := .builtin .append, args := #[s, x], argTypes := #[t, t] })
    (v1 v2 v : Value) (w' : World) (hs : a.eval s = v1) (hx : a.eval x = v2) (hr : (Builtin.append_ #[t, t] o.type #[v1, v2]).run P w = .ok v w') (h : wpList P ops Q rest (a.put o.dst v) w') : wpList P ops Q (o :: rest) a w :=
  wpList_plain hgd fun _ hK => by
    unfold Oper.wp execOp
    simp only [ho, resolve, invoke, builtin, Sem.run_bind, Sem.run_pure, Result.andThen_ok, List.map_toArray, List.map_cons, List.map_nil, hs, hx, hr]
    exact hK _ _ h
end
theorem flat_one1 : ∀ (ps : List Pt), ∀ u ∈ flat ps, u.oneCell' = true
  | [], u, h => by simp [flat] at h
  | p :: ps, u, h => by
    simp [flat] at h
    rcases h with rfl | rfl | h
    · rfl
    · rfl
    · exact flat_one1 ps u h
theorem append_nils (w : World) : (Builtin.append_ #[22, 22] 22 #[.slice none 0 0, .slice none 0 0]).run Try.prog w = .ok (.slice none 0 0) w := by
  obtain ⟨i0, hi, hz0, hz1, hz2⟩ := info_parts info28
  simp [Builtin.append_, run_underlying Try.underlying22, sizeOf, typeInfo, hi, Builtin.lenOf, Builtin.firstCells]
/-- a copy of the first points of a slice -/
theorem app_src (W : World) (g o m c : Nat) (ps : List Pt) (h : PtsAt W g o ps) (hm : m ≤ ps.length) (hl : m ≤ 1000) :
    ∃ v' W', (Builtin.append_ #[22, 22] 22 #[.slice none 0 0, .slice (some ⟨g, o, none⟩) m c]).run Try.prog W = .ok v' W' ∧ OwnP W' W.heap.size v' (ps.take m) ∧ Below W.heap.size W W' := by
  obtain ⟨i0, hi, hz0, hz1, hz2⟩ := info_parts info28
  obtain ⟨v', W', h1, h2, h3, _, _⟩ := run_append_own_at (P := Try.prog) (w := W) W.heap.size 22 22 28 i0 (.agg #[.int .i64 0, .int .i64 0]) 2 16 Try.underlying22 hi hz0 hz1 hz2 rfl (by decide) (.slice none 0 0) 0 [] (World.ownsRow_nil _ _ _ _)
    ⟨g, o, none⟩ m c (flat (ps.take m)) (by rw [flat_length, List.length_take, Nat.min_eq_left hm]) (pts_cells h m) (flat_one1 _) (by unfold maxLen; omega) (by omega) (Nat.le_refl _)
  refine ⟨v', W', h1, ?_, (Below.refl W.heap.size W).grown h3 (Nat.le_refl _) (fun r e => by cases e)⟩
  unfold OwnP
  rw [List.length_take, Nat.min_eq_left hm]
  simpa using h2
theorem app_copy (W : World) (n₀ : Nat) (v : Value) (ps : List Pt) (h : OwnP W n₀ v ps) (hl : ps.length ≤ 1000) :
    ∃ v' W', (Builtin.append_ #[22, 22] 22 #[.slice none 0 0, v]).run Try.prog W = .ok v' W' ∧ OwnP W' W.heap.size v' ps ∧ Below W.heap.size W W' := by
  obtain ⟨a, c, rfl, hh⟩ := OwnP.open h
  rcases hh with ⟨rfl, rfl, rfl⟩ | ⟨g, _, rfl, hp, _⟩
  · exact ⟨_, W, append_nils W, World.ownsRow_nil _ _ _ _, Below.refl _ _⟩
  · have := app_src W g 0 ps.length c ps hp (Nat.le_refl _) hl
    rwa [List.take_length] at this
theorem app_one (W : World) (n₀ : Nat) (v : Value) (ps : List Pt) (x y : Int) (g : Nat) (h : OwnP W n₀ v ps) (hn : n₀ ≤ W.heap.size) (hl : ps.length ≤ 1000) (hr : Row W g 28 [.int .i64 x, .int .i64 y]) :
    ∃ v' W', (Builtin.append_ #[22, 22] 22 #[v, .slice (some ⟨g, 0, none⟩) 1 1]).run Try.prog W = .ok v' W' ∧ OwnP W' n₀ v' (ps ++ [(x, y)]) ∧ Below n₀ W W' := by
  obtain ⟨i0, hi, hz0, hz1, hz2⟩ := info_parts info28
  obtain ⟨v', W', h1, h2, h3, _, _⟩ := run_append_own_at (P := Try.prog) (w := W) n₀ 22 22 28 i0 (.agg #[.int .i64 0, .int .i64 0]) 2 16 Try.underlying22 hi hz0 hz1 hz2 rfl (by decide) v ps.length (flat ps) h
    ⟨g, 0, none⟩ 1 1 [.int .i64 x, .int .i64 y] rfl (fun j u hu => by
      rw [Go.WideShapes.add_plain, Nat.zero_add, hr.cell]; exact hu) (by simp [Value.oneCell']) (by unfold maxLen; omega) (by omega) hn
  refine ⟨v', W', h1, ?_, (Below.refl n₀ W).grown h3 hn (fun r e => (World.ownsRow.lt h r e).1)⟩
  unfold OwnP
  rw [flat_snoc, List.length_append, List.length_singleton]
  exact h2
theorem slice_upto (a : Option Addr) (n c m : Nat) (hm : m ≤ c) (w : World) :
    (Instr.slice 22 (.slice a n c) none (some (.int .i64 (m : Int))) none).run Try.prog w = .ok (.slice a m c) w := by
  have ht : Try.prog.underlying 22 = some (.slice (Try.prog.elem 22)) := by simp [Program.elem, Try.underlying22]
  have he : Try.prog.elem 22 = 28 := by simp [Program.elem, Try.underlying22]
  have size28 : (Go.sizeOf 28).run Try.prog w = .ok 2 w := by kernel_rfl
  rw [run_slice_h w 22 _ _ _ ht .i64 _ (by omega) (by omega), he, size28]
  cases a with
  | none => simp [Result.andThen, sliced]
  | some a => simp [Result.andThen, sliced, Addr.add]
set_option maxRecDepth 100000 in
set_option maxHeartbeats 1000000 in
theorem own_any (ps : List Pt) (a : Option Addr) (c : Nat) (w : World) (hv : SlP w (.slice a ps.length c) ps) (hn : a = none → c = 0) (hl : ps.length ≤ maxLen) :
    Calls Try.prog 15 #[.slice a ps.length c] w fun e w' => ∃ v, e = .returned v ∧ OwnP w' w.heap.size v (ps.take 13) ∧ Below w.heap.size w w' := by
  obtain ⟨a', c', he, hc, hp⟩ := hv
  cases he
  cases a with
  | none =>
    have hc0 := hn rfl
    subst hc0
    have hps : ps = [] := List.eq_nil_of_length_eq_zero (by omega)
    subst hps
    have s1 : ∀ w, (Instr.slice 22 (.slice none 0 0) none (some (.int .i64 0)) none).run Try.prog w = .ok (.slice none 0 0) w := fun w => slice_upto none 0 0 0 (by omega) w
    go_enter Try.func15, Try.ntmps15
    go_wp2_with (at_builtin; refine wpList_append_run rfl _ _ 22 rfl _ _ _ _ rfl rfl (append_nils w) ?_)
    go_ret
    exact ⟨_, rfl, World.ownsRow_nil _ _ _ _, Below.refl _ _⟩
  | some a =>
  have key : ∀ m, m ≤ ps.length → m ≤ 13 → ∃ v' W', (Builtin.append_ #[22, 22] 22 #[.slice none 0 0, .slice (some a) m c]).run Try.prog w = .ok v' W' ∧ OwnP W' w.heap.size v' (ps.take m) ∧ Below w.heap.size w W' := by
    intro m hm h13
    rcases hp with rfl | ⟨b, o, he, hp⟩
    · have hm0 : m = 0 := by simpa using hm
      subst hm0
      obtain ⟨i0, hi, hz0, hz1, hz2⟩ := info_parts info28
      obtain ⟨v', W', h1, h2, h3, _, _⟩ := run_append_own_at (P := Try.prog) (w := w) w.heap.size 22 22 28 i0 (.agg #[.int .i64 0, .int .i64 0]) 2 16 Try.underlying22 hi hz0 hz1 hz2 rfl (by decide) (.slice none 0 0) 0 [] (World.ownsRow_nil _ _ _ _)
        a 0 c [] rfl (fun j u h => by simp at h) (fun u h => by cases h) (by unfold maxLen; omega) (by omega) (Nat.le_refl _)
      exact ⟨v', W', h1, by simpa [OwnP, flat] using h2, (Below.refl w.heap.size w).grown h3 (Nat.le_refl _) (fun r e => by cases e)⟩
    · cases he
      exact app_src w b o m c ps hp hm (by omega)
  by_cases h13 : ps.length ≤ 13
  · obtain ⟨v', W', h1, h2, h3⟩ := key ps.length (Nat.le_refl _) h13
    have s1 : ∀ w, (Instr.slice 22 (.slice (some a) ps.length c) none (some (.int .i64 (ps.length : Int))) none).run Try.prog w = .ok (.slice (some a) ps.length c) w := fun w => slice_upto (some a) _ c _ (by omega) w
    have H := Lib.hid (And.intro h1 (And.intro h2 h3))
    have HT := Lib.hid (show ps.take ps.length = ps.take 13 by rw [List.take_length, List.take_of_length_le h13])
    have hmin : min (ps.length : Int) 13 = (ps.length : Int) := by omega
    clear h1 h2 h3 key
    go_enter Try.func15, Try.ntmps15
    go_wp2_with (at_builtin; refine wpList_append_run rfl _ _ 22 rfl _ _ _ _ rfl rfl H.out.1 ?_)
    go_ret
    exact ⟨_, rfl, by rw [← HT.out]; exact H.out.2.1, H.out.2.2⟩
  · obtain ⟨v', W', h1, h2, h3⟩ := key 13 (by omega) (Nat.le_refl _)
    have s1 : ∀ w, (Instr.slice 22 (.slice (some a) ps.length c) none (some (.int .i64 13)) none).run Try.prog w = .ok (.slice (some a) 13 c) w := fun w => slice_upto (some a) _ c 13 (by omega) w
    have H := Lib.hid (And.intro h1 (And.intro h2 h3))
    have hmin : min (ps.length : Int) 13 = 13 := by omega
    clear h1 h2 h3 key
    go_enter Try.func15, Try.ntmps15
    go_wp2_with (at_builtin; refine wpList_append_run rfl _ _ 22 rfl _ _ _ _ rfl rfl H.out.1 ?_)
    go_ret
    exact ⟨_, rfl, H.out.2.1, H.out.2.2⟩
end Go.Proofs.Ytlemipnplgbckaa
