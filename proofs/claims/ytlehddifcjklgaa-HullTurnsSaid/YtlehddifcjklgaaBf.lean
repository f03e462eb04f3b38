import Derived.Test.YtlehddifcjklgaaBe
import Derived.Maps.OwnIn
import Derived.Maps.OwnSet
import Derived.Maps.AppendAt
import Derived.RangeFuncNested
import Derived.RangeFuncBound
import Derived.RangeFuncCalls
import Derived.RangeFuncLeaves
import Derived.Shelf.Abstract
import Derived.Shelf.RegionOpen
import Derived.WalkKit
import Derived.OwnWalkIn
import Derived.TacticsInMore
import Derived.LoopNIn
import Derived.LoopIn
import Derived.WalkMore
import Derived.Sort.QuietThIn
import Derived.Sort.QuietTacIn
import Derived.Sort.BigQuietIn
import Derived.WalkSpells
import Derived.WalkLawsBesides
import Derived.BigQuiet
import Derived.Deep.QuietTactic
import Derived.Lib.Hide
import Derived.Deep.RegionHeld3
import Derived.StillTailTactics
import Derived.Deep.LoopGhost
import Derived.Lib.IndexAny
namespace Go.Proofs.Ytlehddifcjklgaa
open Go.RowKit Go.Shelf
attribute [local go_sem] Oper.semAt_some
theorem info58 : (Try.prog.info? 58).map (fun i => (i.zero, i.size, i.bytes)) = some (some (.agg #[.int .i64 0, .int .i64 0]), 2, 16) := by kernel_rfl
theorem flat_length : ∀ ps : List Pt, (flat ps).length = ps.length * 2
  | [] => rfl
  | p :: ps => by simp [flat, flat_length ps]; omega
theorem flat_append : ∀ ps qs : List Pt, flat (ps ++ qs) = flat ps ++ flat qs
  | [], _ => rfl
  | p :: ps, qs => by simp [flat, flat_append ps qs]
theorem flat_one : ∀ (ps : List Pt), ∀ u ∈ flat ps, u.oneCell' = true
  | [], _, h => by cases h
  | p :: ps, u, h => by
    simp only [flat, List.mem_cons] at h
    rcases h with rfl | rfl | h
    · simp [Value.oneCell']
    · simp [Value.oneCell']
    · exact flat_one ps u h
theorem flat_at (ps : List Pt) (j : Nat) (u : Value) (h : (flat ps)[j]? = some u) : ∃ i, ∃ hi : i < ps.length, (j = i * 2 ∧ u = .int .i64 ps[i].1) ∨ (j = i * 2 + 1 ∧ u = .int .i64 ps[i].2) := by
  have hj : j < (flat ps).length := (List.getElem?_eq_some_iff.1 h).1
  rw [flat_length] at hj
  have hi : j / 2 < ps.length := by omega
  obtain ⟨h1, h2⟩ := flat_get ps (j / 2) hi
  refine ⟨j / 2, hi, ?_⟩
  rcases Nat.mod_two_eq_zero_or_one j with hm | hm
  · left
    have e : j = j / 2 * 2 := by omega
    rw [← e] at h1
    rw [h] at h1
    exact ⟨e, by simpa using h1⟩
  · right
    have e : j = j / 2 * 2 + 1 := by omega
    rw [← e] at h2
    rw [h] at h2
    exact ⟨e, by simpa using h2⟩
theorem pts_cells {W : World} {b o : Nat} {ps : List Pt} (h : PtsAt W b o ps) (n : Nat) : ∀ j u, (flat (ps.take n))[j]? = some u → W.cell? ((⟨b, o, none⟩ : Addr).add j) = some u := fun j u hu => by
  rw [Go.WideShapes.add_plain]
  obtain ⟨i, hi, h1⟩ := flat_at _ j u hu
  have hi' : i < ps.length := by rw [List.length_take] at hi; omega
  rw [List.getElem_take] at h1
  rcases h1 with ⟨rfl, rfl⟩ | ⟨rfl, rfl⟩
  · exact h.x i hi'
  · exact h.y i hi'
/-- a slice of the call's own, of points -/
def OwnP (W : World) (n₀ : Nat) (v : Value) (ps : List Pt) : Prop := W.ownsRow n₀ 58 2 v ps.length (flat ps)
theorem OwnP.open {W : World} {n₀ : Nat} {v : Value} {ps : List Pt} (h : OwnP W n₀ v ps) : ∃ a c, v = .slice a ps.length c ∧ (a = none ∧ c = 0 ∧ ps = [] ∨ ∃ g, n₀ ≤ g ∧ a = some ⟨g, 0, none⟩ ∧ PtsAt W g 0 ps ∧ ps.length ≤ c) := by
  have h0 := h
  rcases h.2 with ⟨rfl, hn⟩ | ⟨g, cap, cur, rfl, hg, hgb, hc, _⟩
  · have : ps = [] := List.eq_nil_of_length_eq_zero hn
    subst this
    exact ⟨none, 0, rfl, .inl ⟨rfl, rfl, rfl⟩⟩
  · have hlt := (Array.getElem?_eq_some_iff.1 hgb).1
    refine ⟨_, _, rfl, .inr ⟨g, hg, rfl, ⟨hlt, fun i hi => ?_, fun i hi => ?_⟩, hc⟩⟩
    · have := World.ownsRow.cells h0 (g := g) rfl (i * 2) _ (flat_get ps i hi).1
      rw [Go.WideShapes.add_plain] at this
      simpa using this
    · have := World.ownsRow.cells h0 (g := g) rfl (i * 2 + 1) _ (flat_get ps i hi).2
      rw [Go.WideShapes.add_plain] at this
      simpa using this
theorem append_nils (w : World) : ∀ ty, (Builtin.append_ #[22, 22] ty #[.slice none 0 0, .slice none 0 0]).run Try.prog w = .ok (.slice none 0 0) w := fun ty => by
  obtain ⟨i0, hi, hz0, hz1, hz2⟩ := info_parts info58
  simp [Builtin.append_, run_underlying Try.underlying22, sizeOf, typeInfo, hi, Builtin.lenOf, Builtin.firstCells, loadCells, loadCellsFrom]
theorem slice_upto (a : Option Addr) (n c m : Nat) (hm : m ≤ c) (w : World) :
    (Instr.slice 22 (.slice a n c) none (some (.int .i64 (m : Int))) none).run Try.prog w = .ok (.slice a m c) w := by
  have ht : Try.prog.underlying 22 = some (.slice (Try.prog.elem 22)) := by simp [Program.elem, Try.underlying22]
  have he : Try.prog.elem 22 = 58 := by simp [Program.elem, Try.underlying22]
  rw [run_slice_h w 22 _ _ _ ht .i64 _ (by omega) (by omega), he, size58]
  cases a with
  | none => simp [Result.andThen, sliced]
  | some a => simp [Result.andThen, sliced, Addr.add]
set_option maxRecDepth 100000 in
set_option maxHeartbeats 1000000 in
theorem own_any (ps : List Pt) (a : Option Addr) (c : Nat) (w : World) (hp : PtsA w a ps c) (hc : ps.length ≤ c) (hn : a = none → c = 0) (hl : ps.length ≤ maxLen) :
    Calls Try.prog 18 #[.slice a ps.length c] w fun e w' => ∃ v, e = .returned v ∧ OwnP w' w.heap.size v (ps.take 13) ∧ Below w.heap.size w w' := by
  obtain ⟨i0, hi, hz0, hz1, hz2⟩ := info_parts info58
  cases a with
  | none =>
    have hc0 := hn rfl
    subst hc0
    have hps : ps = [] := List.eq_nil_of_length_eq_zero (by omega)
    subst hps
    have s1 : ∀ w, (Instr.slice 22 (.slice none 0 0) none (some (.int .i64 0)) none).run Try.prog w = .ok (.slice none 0 0) w := fun w => slice_upto none 0 0 0 (by omega) w
    go_enter Try.func18, Try.ntmps18
    go_wp2_with fail
    go_ret
    exact ⟨_, rfl, World.ownsRow_nil _ _ _ _, Below.refl _ _⟩
  | some a =>
  have hnews : ∀ j u, (flat (ps.take 13))[j]? = some u → w.cell? (a.add j) = some u := by
    rcases hp with rfl | ⟨b, o, he, hp, _⟩
    · intro j u h; simp [flat] at h
    · cases he
      exact pts_cells hp 13
  by_cases h13 : ps.length ≤ 13
  · have s1 : ∀ w, (Instr.slice 22 (.slice (some a) ps.length c) none (some (.int .i64 (ps.length : Int))) none).run Try.prog w = .ok (.slice (some a) ps.length c) w := fun w => slice_upto (some a) _ c _ (by omega) w
    go_enter Try.func18, Try.ntmps18
    go_wp2_with (at_builtin; refine wpList_append_own_at _ rfl _ _ 22 rfl w.heap.size 58 i0 (.agg #[.int .i64 0, .int .i64 0]) 2 16 Try.underlying22 hi hz0 hz1 hz2 rfl (by decide) _ _ _ rfl (World.ownsRow_nil _ _ _ _) a ps.length c (flat (ps.take 13)) rfl (by rw [flat_length, List.length_take]; congr 1; omega) hnews (flat_one _) (by unfold maxLen; omega) (by omega) (Nat.le_refl _) ?_; intro v' w2 hown' hgrow hnil hat; have HR := Lib.hid hown'; have HG : Hid (w.grownBy w2 (Value.ownBlock (.slice none 0 0))) := Lib.hid hgrow; clear hown' hgrow hnil hat)
    go_ret
    have h1 := HR.out
    rw [List.nil_append, Nat.zero_add] at h1
    refine ⟨_, rfl, ?_, (Below.refl w.heap.size w).grown HG.out (Nat.le_refl _) (fun r e => by cases e)⟩
    unfold OwnP
    rw [List.length_take, show min 13 ps.length = ps.length by omega]
    exact h1
  · have s1 : ∀ w, (Instr.slice 22 (.slice (some a) ps.length c) none (some (.int .i64 13)) none).run Try.prog w = .ok (.slice (some a) 13 c) w := fun w => slice_upto (some a) _ c 13 (by omega) w
    go_enter Try.func18, Try.ntmps18
    go_wp2_with (at_builtin; refine wpList_append_own_at _ rfl _ _ 22 rfl w.heap.size 58 i0 (.agg #[.int .i64 0, .int .i64 0]) 2 16 Try.underlying22 hi hz0 hz1 hz2 rfl (by decide) _ _ _ rfl (World.ownsRow_nil _ _ _ _) a 13 c (flat (ps.take 13)) rfl (by rw [flat_length, List.length_take]; congr 1; omega) hnews (flat_one _) (by unfold maxLen; omega) (by omega) (Nat.le_refl _) ?_; intro v' w2 hown' hgrow hnil hat; have HR := Lib.hid hown'; have HG : Hid (w.grownBy w2 (Value.ownBlock (.slice none 0 0))) := Lib.hid hgrow; clear hown' hgrow hnil hat)
    go_ret
    have h1 := HR.out
    rw [List.nil_append, Nat.zero_add] at h1
    refine ⟨_, rfl, ?_, (Below.refl w.heap.size w).grown HG.out (Nat.le_refl _) (fun r e => by cases e)⟩
    unfold OwnP
    rw [List.length_take, show min 13 ps.length = 13 by omega]
    exact h1
end Go.Proofs.Ytlehddifcjklgaa
