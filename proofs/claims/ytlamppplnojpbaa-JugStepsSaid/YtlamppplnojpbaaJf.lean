import Derived.Test.YtlamppplnojpbaaJe
import Derived.DeepKeys4
import Derived.Maps.Views
import Derived.Maps.OwnOps
import Derived.Maps.OwnIn
import Derived.Maps.AppendAt
import Derived.RangeFuncNested
import Derived.RangeFuncBound
import Derived.RangeFuncCalls
import Derived.RangeFuncLeaves
import Derived.Shelf.Abstract
import Derived.Shelf.RegionOpen
import Derived.WalkKit
import Derived.OwnWalkIn
import Derived.TacticsInMore
import Derived.LoopNIn
import Derived.LoopIn
import Derived.WalkSpells
import Derived.WalkLawsBesides
import Derived.BigQuiet
import Derived.Deep.QuietTactic
import Derived.Lib.Hide
import Derived.Deep.RegionHeld3
import Derived.StillTailTactics
import Derived.Deep.LoopGhost
import Derived.Maps.OwnSet
import Derived.Lib.IndexAny
import Derived.Sort.QuietThIn
import Derived.Sort.QuietTacIn
import Derived.Sort.BigQuietIn
namespace Go.Proofs.Ytlamppplnojpbaa
open Go.RowKit Go.Shelf
attribute [local go_sem] Oper.semAt_some
theorem laidJ : laidOutB Try.prog = true := by kernel_rfl
theorem row77 : (77 : TypeId) < Try.prog.types.size := of_decide_eq_true (by kernel_rfl)
theorem wide77 : (match Try.prog.underlying 77 with | some (.array _ _) | some (.struct _) => true | _ => false) = true := by rw [Try.underlying77]
set_option maxRecDepth 100000 in
theorem law77 : Maps.Keyed Try.prog 77 := Maps.Keyed.of_law (deep_law_laid laidJ (m := 2) (by omega) row77 (by kernel_rfl) wide77)
theorem cells77 : Try.prog.cellsOf 77 = 4 := by kernel_rfl
theorem cells3 : Try.prog.cellsOf 3 = 1 := by kernel_rfl
theorem wfJ {x : Int} (h : Bd 100 x) : (Lit.int .i64 x).wf = true := WalkArith.wf_i64 (by have := h.1; have := h.2; omega)
theorem lit3 (d : Nat) {x : Int} (h : Bd 100 x) : Try.prog.keyLits (d + 1) 3 [.int .i64 x] = some [.int .i64 x] := by
  unfold Program.keyLits
  rw [Try.underlying3]
  dsimp only
  rw [if_pos ⟨rfl, wfJ h⟩]
theorem keyType77 : Try.prog.keyType 77 = true := by kernel_rfl
theorem types_size : Try.prog.types.size + 1 = 126 := by kernel_rfl
set_option maxRecDepth 100000 in
/-- a filling is a key -/
theorem keyF (f0 f1 f2 f3 : Int) (h0 : Bd 100 f0) (h1 : Bd 100 f1) (h2 : Bd 100 f2) (h3 : Bd 100 f3) : ∃ kl, keyOf Try.prog 77 (.agg #[.int .i64 f0, .int .i64 f1, .int .i64 f2, .int .i64 f3]) = some kl := by
  unfold keyOf
  rw [Try.underlying77]
  dsimp only
  rw [types_size]
  have e : Try.prog.keyLits 126 77 (Value.agg #[.int .i64 f0, .int .i64 f1, .int .i64 f2, .int .i64 f3]).cells.toList = some [.int .i64 f0, .int .i64 f1, .int .i64 f2, .int .i64 f3] := by
    unfold Program.keyLits
    rw [Try.underlying77]
    dsimp only
    have e0 := lit3 124 h0
    have e1 := lit3 124 h1
    have e2 := lit3 124 h2
    have e3 := lit3 124 h3
    rw [show (Value.agg #[.int .i64 f0, .int .i64 f1, .int .i64 f2, .int .i64 f3]).cells.toList = [.int .i64 f0, .int .i64 f1, .int .i64 f2, .int .i64 f3] from rfl, cells77, cells3]
    rw [if_pos (show [Value.int .i64 f0, .int .i64 f1, .int .i64 f2, .int .i64 f3].length = 4 from rfl)]
    simp only [show List.range 4 = [0, 1, 2, 3] from rfl, List.mapM_cons, List.mapM_nil, Nat.mul_one, List.drop_zero, List.drop_succ_cons, List.take_succ_cons, List.take_zero, e0, e1, e2, e3]
    rfl
  rw [e, keyType77]
  have hf : Value.formed Try.prog 77 (.agg #[.int .i64 f0, .int .i64 f1, .int .i64 f2, .int .i64 f3]) = true := by
    simp [Value.formed, Try.underlying77, cells77]
  rw [hf]
  exact ⟨_, rfl⟩
/-- an element of the map is read as itself -/
def heldE (v : Value) : Option (DataW Value × List MemPlace) := some (.held v, [])
def Fok (F : List Int) : Prop := F.length = 4 ∧ ∀ i, i < 4 → Bd 100 (F.getD i 0)
theorem Fok.key {F : List Int} (h : Fok F) : ∃ kl, keyOf Try.prog 77 (aggI F) = some kl := by
  obtain ⟨h1, h2⟩ := h
  obtain ⟨f0, f1, f2, f3, rfl⟩ := agg4 F h1
  exact keyF f0 f1 f2 f3 (h2 0 (by omega)) (h2 1 (by omega)) (h2 2 (by omega)) (h2 3 (by omega))
theorem aggI_inj {F G : List Int} (h : aggI F = aggI G) : F = G := by
  unfold aggI at h
  have h1 := congrArg (fun v : Value => match v with | .agg cs => cs.toList | _ => []) h
  simp only at h1
  have : ∀ (F G : List Int), F.map encI = G.map encI → F = G := by
    intro F
    induction F with
    | nil => intro G h; cases G with
      | nil => rfl
      | cons _ _ => simp at h
    | cons a F ih => intro G h; cases G with
      | nil => simp at h
      | cons b G =>
        simp only [List.map_cons, List.cons.injEq] at h
        obtain ⟨h1, h2⟩ := h
        unfold encI at h1
        cases h1
        rw [ih G h2]
  exact this F G (by simpa using h1)
/-- block b is a map of at most n entries that holds S -/
def SeenAt (W : World) (b n : Nat) (S : List Int → Option Value) : Prop :=
  ∃ D : DataW Value, W.ownsMap Try.prog 77 heldE b n D ∧ (∀ F, Fok F → ∀ kl, keyOf Try.prog 77 (aggI F) = some kl → Maps.has D kl = (S F).isSome ∧ ∀ v zd, S F = some v → D.atKey kl zd = .held v) ∧ Maps.size D = n ∧ ∀ kl, Maps.has D kl = true → ∃ F, Fok F ∧ keyOf Try.prog 77 (aggI F) = some kl
theorem SeenAt.kept {W W' : World} {b n : Nat} {S : List Int → Option Value} {row : Option Nat} (h : SeenAt W b n S) (hg : W.grownBy W' row) (hne : some b ≠ row) : SeenAt W' b n S := by
  obtain ⟨D, h1, h2⟩ := h
  exact ⟨D, h1.kept hg hne, h2⟩
theorem SeenAt.lt {W : World} {b n : Nat} {S : List Int → Option Value} (h : SeenAt W b n S) : b < W.heap.size := by
  obtain ⟨D, h1, _⟩ := h
  exact h1.lt
theorem SeenAt.grow {W W' : World} {b n : Nat} {S : List Int → Option Value} (h : SeenAt W b n S) (hb : Below W.heap.size W W') : SeenAt W' b n S :=
  h.kept (row := none) ⟨hb.os, hb.tape, hb.output, hb.size, fun k hk _ => hb.block k hk⟩ (by simp)
theorem seen_made (W : World) : SeenAt (W.alloc (.map #[] 0)) W.heap.size 0 (fun _ => none) :=
  ⟨_, World.ownsMap_made W Try.prog 77 heldE, fun F _ kl _ => ⟨rfl, fun v zd h => by cases h⟩, rfl, fun kl h => by cases h⟩
/-- what a new entry is read as where there is none -/
def zeroC : Value := .agg #[.int .i64 0, .int .i64 0, .int .i64 0, .int .i64 0, .int .i64 0, .int .i64 0, .int .i64 0]
theorem zero94 (w : World) : (zeroValue 94).run Try.prog w = .ok zeroC w := by kernel_rfl
theorem SeenAt.look {W : World} {b n : Nat} {S : List Int → Option Value} (h : SeenAt W b n S) {F : List Int} (hF : Fok F) :
    (Instr.lookup 74 (.map (some b)) (aggI F) true).run Try.prog W = .ok (.tuple #[(S F).getD zeroC, .bool (S F).isSome]) W := by
  obtain ⟨D, h1, h2⟩ := h
  obtain ⟨kl, hk⟩ := hF.key
  obtain ⟨v, ps, hrun, hv⟩ := h1.look_ok law77 Try.underlying74 (zero94 W) (zd := .held zeroC) (zp := []) rfl hk
  obtain ⟨g1, g2⟩ := h2.1 F hF kl hk
  rw [hrun, g1]
  cases hS : S F with
  | none =>
    rw [hS] at g1
    rw [Maps.atKey_of_not_has g1] at hv
    unfold heldE at hv
    simp only [Option.some.injEq, Prod.mk.injEq, DataW.held.injEq] at hv
    rw [hv.1]; rfl
  | some u =>
    rw [g2 u _ hS] at hv
    unfold heldE at hv
    simp only [Option.some.injEq, Prod.mk.injEq, DataW.held.injEq] at hv
    rw [hv.1]; rfl
theorem SeenAt.look1 {W : World} {b n : Nat} {S : List Int → Option Value} (h : SeenAt W b n S) {F : List Int} (hF : Fok F) :
    (Instr.lookup 74 (.map (some b)) (aggI F) false).run Try.prog W = .ok ((S F).getD zeroC) W := by
  obtain ⟨D, h1, h2⟩ := h
  obtain ⟨kl, hk⟩ := hF.key
  obtain ⟨v, ps, hrun, hv⟩ := h1.lookup law77 Try.underlying74 (zero94 W) (zd := .held zeroC) (zp := []) rfl hk
  obtain ⟨g1, g2⟩ := h2.1 F hF kl hk
  rw [hrun]
  cases hS : S F with
  | none =>
    rw [hS] at g1
    rw [Maps.atKey_of_not_has g1] at hv
    unfold heldE at hv
    simp only [Option.some.injEq, Prod.mk.injEq, DataW.held.injEq] at hv
    rw [hv.1]; rfl
  | some u =>
    rw [g2 u _ hS] at hv
    unfold heldE at hv
    simp only [Option.some.injEq, Prod.mk.injEq, DataW.held.injEq] at hv
    rw [hv.1]; rfl
def putS (S : List Int → Option Value) (F : List Int) (v : Value) : List Int → Option Value := fun G => if G = F then some v else S G
theorem SeenAt.put {W : World} {b n : Nat} {S : List Int → Option Value} (h : SeenAt W b n S) {F : List Int} (hF : Fok F) (v : Value) (hn : n < maxLen) (hnew : S F = none) :
    ∃ W', (Instr.mapUpdate 74 (.map (some b)) (aggI F) v).run Try.prog W = .ok () W' ∧ SeenAt W' b (n + 1) (putS S F v) ∧ W.grownBy W' (some b) := by
  obtain ⟨D, h1, h2⟩ := h
  obtain ⟨kl, hk⟩ := hF.key
  obtain ⟨W', hrun, ho, hg⟩ := h1.update law77 Try.underlying74 hn (d := .held v) (ps := []) hk rfl
  obtain ⟨h2, hsz, hks⟩ := h2
  have hti : Maps.Tidy D := by obtain ⟨es, e, hp, _⟩ := h1.entries law77; exact ⟨es, e, hp⟩
  have hhas : Maps.has D kl = false := by rw [(h2 F hF kl hk).1, hnew]; rfl
  refine ⟨W', hrun, ⟨_, ho, fun G hG kl' hk' => ?_, by rw [Maps.size_put hti, hhas, hsz]; rfl, fun kl' hk' => ?_⟩, hg⟩
  rotate_left
  · by_cases e : kl' = kl
    · subst e; exact ⟨F, hF, hk⟩
    · rw [Maps.has_put_other e] at hk'
      exact hks kl' hk'
  unfold putS
  by_cases e : G = F
  · subst e
    rw [hk] at hk'
    cases hk'
    rw [if_pos rfl]
    exact ⟨Maps.has_put_same h1.isMap (law77.key hk) _, fun u zd hu => by cases hu; exact Maps.atKey_put_same h1.isMap (law77.key hk) _ _⟩
  · have hne : kl' ≠ kl := fun ee => e (aggI_inj (law77.inj (hk'.trans (by rw [ee])) hk))
    rw [if_neg e]
    obtain ⟨g1, g2⟩ := h2 G hG kl' hk'
    exact ⟨by rw [Maps.has_put_other hne]; exact g1, fun u zd hu => by rw [Maps.atKey_put_other hne]; exact g2 u zd hu⟩
end Go.Proofs.Ytlamppplnojpbaa
