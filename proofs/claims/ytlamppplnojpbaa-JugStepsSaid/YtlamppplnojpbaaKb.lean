import Derived.Test.YtlamppplnojpbaaKa
import Derived.Laws.AppendOwn
import Derived.ChangeKeysEq
import Derived.Maps.RangeWalk
import Derived.Maps.OwnIn
import Derived.Maps.AppendAt
import Derived.RangeFuncNested
import Derived.RangeFuncBound
import Derived.RangeFuncCalls
import Derived.RangeFuncLeaves
import Derived.Shelf.Abstract
import Derived.Shelf.RegionOpen
import Derived.WalkKit
import Derived.WalkMore
import Derived.OwnWalkIn
import Derived.TacticsInMore
import Derived.LoopNIn
import Derived.LoopIn
import Derived.WalkSpells
import Derived.WalkLawsBesides
import Derived.BigQuiet
import Derived.Deep.QuietTactic
import Derived.Lib.Hide
import Derived.Deep.RegionHeld3
import Derived.StillTailTactics
import Derived.Deep.LoopGhost
import Derived.Maps.OwnSet
import Derived.Lib.IndexAny
import Derived.Sort.QuietThIn
import Derived.Sort.QuietTacIn
import Derived.Sort.BigQuietIn
namespace Go.Proofs.Ytlamppplnojpbaa
open Go.RowKit Go.Shelf
attribute [local go_sem] Oper.semAt_some
/-! a range over the map of fillings -/
def HasS (D : DataW Value) (S : List Int → Option Value) : Prop := ∀ F, Fok F → ∀ kl, keyOf Try.prog 77 (aggI F) = some kl → Maps.has D kl = (S F).isSome ∧ ∀ v zd, S F = some v → D.atKey kl zd = .held v
/-- a range over the map is under way: what has come is in vis, c are still to come -/
def RngAt (W : World) (b r n : Nat) (S : List Int → Option Value) (vis : List (List Int)) (c : Nat) : Prop :=
  ∃ D left, W.ranges Try.prog 77 heldE b r n D left c ∧ HasS D S ∧ (∀ F, Fok F → ∀ kl, keyOf Try.prog 77 (aggI F) = some kl → left kl = ((S F).isSome && !vis.contains F)) ∧ (∀ kl, left kl = true → ∃ F, Fok F ∧ keyOf Try.prog 77 (aggI F) = some kl)
theorem RngAt.kept {W W' : World} {b r n : Nat} {S : List Int → Option Value} {vis : List (List Int)} {c : Nat} {row : Option Nat} (h : RngAt W b r n S vis c) (hg : W.grownBy W' row) (hb : some b ≠ row) (hr : some r ≠ row) : RngAt W' b r n S vis c := by
  obtain ⟨D, left, h1, h2⟩ := h
  exact ⟨D, left, h1.kept hg hb hr, h2⟩
theorem RngAt.grow {W W' : World} {b r n : Nat} {S : List Int → Option Value} {vis : List (List Int)} {c : Nat} (h : RngAt W b r n S vis c) (hb : Below W.heap.size W W') : RngAt W' b r n S vis c :=
  h.kept (row := none) ⟨hb.os, hb.tape, hb.output, hb.size, fun k hk _ => hb.block k hk⟩ (by simp) (by simp)
theorem RngAt.left {W : World} {b r n : Nat} {S : List Int → Option Value} {vis : List (List Int)} {c : Nat} (h : RngAt W b r n S vis c) : W.rangeLeft b r = c := by
  obtain ⟨D, left, h1, _⟩ := h
  exact h1.left_eq
theorem RngAt.lt {W : World} {b r n : Nat} {S : List Int → Option Value} {vis : List (List Int)} {c : Nat} (h : RngAt W b r n S vis c) : r < W.heap.size ∧ b < W.heap.size := by
  obtain ⟨D, left, h1, _⟩ := h
  exact ⟨h1.lt, h1.owns.lt⟩
section
variable {w : World} {ops : Array Oper} {rest : List Oper} {o : Oper} {a : Act} {Q : Exit → Act → World → Prop}
theorem wpList_range_seen (hg : o.guard = none) (m : Operand) (t : TypeId) (hop : o.op = Op.range t m) (ht : Try.prog.underlying t = some (.map 77 94)) (b n : Nat) (S : List Int → Option Value) (hm : a.eval m = .map (some b)) (hs : SeenAt w b n S)
    (hK : ∀ w', RngAt w' b w.heap.size n S [] n → w.grownBy w' none → w'.heap.size = w.heap.size + 1 → wpList Try.prog ops Q rest (a.put o.dst (.pointer (some ⟨w.heap.size, 0, none⟩))) w') :
    wpList Try.prog ops Q (o :: rest) a w := by
  obtain ⟨D, h1, h2, h3, h4⟩ := hs
  refine wpList_range_own w hg m t hop 77 94 law77 ht heldE b n D hm h1 (fun w' hr hgr hsz => hK w' ⟨D, _, by rw [h3] at hr; exact hr, h2, fun F hF kl hk => ?_, fun kl hk => h4 kl hk⟩ hgr hsz)
  rw [(h2 F hF kl hk).1]; simp
theorem wpList_next_seen (hg : o.guard = none) (it : Operand) (hop : o.op = Op.next it false) (b r n : Nat) (S : List Int → Option Value) (vis : List (List Int)) (c : Nat) (hit : a.eval it = .pointer (some ⟨r, 0, none⟩)) (h : RngAt w b r n S vis c)
    (hDone : (∀ F, Fok F → (S F).isSome = true → F ∈ vis) → wpList Try.prog ops Q rest (a.put o.dst (.tuple #[.bool false])) w)
    (hMore : ∀ (F : List Int) (v : Value) (w' : World) (c' : Nat), Fok F → S F = some v → F ∉ vis → RngAt w' b r n S (F :: vis) c' → c' < c → w.grownBy w' (some r) → w'.heap.size = w.heap.size →
      (Instr.entry (.pointer (some ⟨r, 0, none⟩))).run Try.prog w' = .ok (.tuple #[aggI F, v]) w' → wpList Try.prog ops Q rest (a.put o.dst (.tuple #[.bool true, aggI F, v])) w') :
    wpList Try.prog ops Q (o :: rest) a w := by
  obtain ⟨D, left, h1, h2, h3, h4⟩ := h
  refine wpList_plain hg fun K' hK' => ?_
  unfold Oper.wp
  rcases h1.next law77 o.type with ⟨h0, hl, hrun⟩ | ⟨key, v, kl, y, w', cnt', hkey, hlk, hv, hat, hrun, hrg, hlt, hgr, hsz, hen⟩
  · simp [execOp, hop, hit, hrun, Result.andThen]
    refine hK' _ _ (hDone fun F hF hS => ?_)
    obtain ⟨kl, hk⟩ := hF.key
    have h5 := h3 F hF kl hk
    rw [hl kl, hS] at h5
    simpa using h5
  · obtain ⟨F, hF, hk⟩ := h4 kl hlk
    have e := law77.inj hkey hk
    subst e
    have h5 := h3 F hF kl hk
    rw [hlk] at h5
    have h5 := h5.symm
    simp only [Bool.and_eq_true, Bool.not_eq_true', List.contains_eq_mem, decide_eq_false_iff_not] at h5
    have hyv : y = (.held v, []) := by unfold heldE at hv; exact (Option.some.inj hv).symm
    obtain ⟨v', hS⟩ := Option.isSome_iff_exists.1 h5.1
    have h6 := (h2 F hF kl hk).2 v' (.held v) hS
    rw [hat, hyv] at h6
    have hvv : v = v' := by simpa using h6
    subst hvv
    simp [execOp, hop, hit, hrun, Result.andThen]
    refine hK' _ _ (hMore F v w' cnt' hF hS h5.2 ⟨D, _, hrg, h2, fun G hG kl' hk' => ?_, fun kl' hk' => ?_⟩ hlt hgr hsz hen)
    · rw [h3 G hG kl' hk']
      by_cases hGF : G = F
      · subst hGF
        rw [hk] at hk'; cases hk'
        have : kl.sameKey kl = true := by
          have hik := law77.key hk
          exact WideAt.sameKey_self hik
        rw [this]; simp
      · have hne : kl' ≠ kl := fun ee => hGF (aggI_inj (law77.inj (hk'.trans (by rw [ee])) hk))
        rw [Maps.sameKey_ne hne]
        simp [hGF]
    · simp only [Bool.and_eq_true] at hk'
      exact h4 kl' hk'.1
theorem wpList_len_seen (hg : o.guard = none) (m : Operand) (t : TypeId) (hop : o.op = Op.call { callee := Callee.builtin Builtin.len, args := #[m], argTypes := #[t] }) (ht : Try.prog.underlying t = some (.map 77 94)) (b n : Nat) (S : List Int → Option Value) (hm : a.eval m = .map (some b)) (hs : SeenAt w b n S)
    (hK : wpList Try.prog ops Q rest (a.put o.dst (.int .i64 (n : Int))) w) : wpList Try.prog ops Q (o :: rest) a w := by
  obtain ⟨D, h1, h2, h3, h4⟩ := hs
  refine wpList_len_own w hg m t hop 77 94 ht heldE b n D hm h1 ?_
  rw [h3]; exact hK
end
end Go.Proofs.Ytlamppplnojpbaa
