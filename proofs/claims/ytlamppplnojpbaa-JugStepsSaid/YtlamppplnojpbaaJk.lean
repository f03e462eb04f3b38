import Derived.Test.YtlamppplnojpbaaJj
import Derived.Laws.AppendOwn
import Derived.Maps.OwnIn
import Derived.Maps.AppendAt
import Derived.RangeFuncNested
import Derived.RangeFuncBound
import Derived.RangeFuncCalls
import Derived.RangeFuncLeaves
import Derived.Shelf.Abstract
import Derived.Shelf.RegionOpen
import Derived.WalkKit
import Derived.WalkMore
import Derived.OwnWalkIn
import Derived.TacticsInMore
import Derived.LoopNIn
import Derived.LoopIn
import Derived.WalkSpells
import Derived.WalkLawsBesides
import Derived.BigQuiet
import Derived.Deep.QuietTactic
import Derived.Lib.Hide
import Derived.Deep.RegionHeld3
import Derived.StillTailTactics
import Derived.Deep.LoopGhost
import Derived.Maps.OwnSet
import Derived.Lib.IndexAny
import Derived.Sort.QuietThIn
import Derived.Sort.QuietTacIn
import Derived.Sort.BigQuietIn
namespace Go.Proofs.Ytlamppplnojpbaa
open Go.RowKit Go.Shelf
attribute [local go_sem] Oper.semAt_some
/-- what holds whenever the search goes out from a filling -/
structure Lp (w : World) (S R : Nat) (F : List Int) (fd fg : Value) (P : List Int) (k : Nat) (A : Sn) (qs : List (List Int)) (v : Value) (W : World) : Prop where
  b : SrB W w.heap.size S F fd fg
  rR : Row W R 89 [.map (some (w.heap.size + 1 + 1 + 1 + 1)), .int .i64 0, .int .i64 0, .int .i64 0, .int .i64 0, .bool false]
  rQ : Row W (R + 1 + 1) 102 [v]
  q : QAt W 0 v qs
  ap : ∀ g, v.ownBlock = some g → R + 1 ≤ g ∧ g ≠ R + 1 + 1
  sn : SeenAt W (w.heap.size + 1 + 1 + 1 + 1) A.length (seenV A)
  bw : Below w.heap.size w W
  hR : S < R
  len : A.length + 25 * k ≤ 1000000 ∧ qs.length ≤ A.length
  okA : ∀ p ∈ A, FitP P p.1 ∧ (p.2.frm.length = 4 ∧ 0 ≤ p.2.k ∧ p.2.k + k ≤ 1000000)
  okQ : ∀ q ∈ qs, FitP P q
theorem lp_start (w w1 : World) (S : Nat) (f0 f1 f2 f3 : Int) (fd fg : Value) (P : List Int) (k : Nat) (hk : k ≤ 30000) (hF : FitP P [f0, f1, f2, f3]) (hb : SrB w1 w.heap.size S [f0, f1, f2, f3] fd fg)
    (hs : SeenAt w1 (w.heap.size + 1 + 1 + 1 + 1) 1 (seenV [([f0, f1, f2, f3], c0)])) (bw : Below w.heap.size w w1) :
    Lp w S w1.heap.size [f0, f1, f2, f3] fd fg P k [([f0, f1, f2, f3], c0)] [[f0, f1, f2, f3]] (.slice (some ⟨w1.heap.size + 1, 0, none⟩) 1 1)
      (((w1.alloc (.cells #[.map (some (w.heap.size + 1 + 1 + 1 + 1)), .int .i64 0, .int .i64 0, .int .i64 0, .int .i64 0, .bool false] 89)).alloc (.cells #[.int .i64 f0, .int .i64 f1, .int .i64 f2, .int .i64 f3] 77)).alloc (.cells #[.slice (some ⟨w1.heap.size + 1, 0, none⟩) 1 1] 102)) := by
  have a0 := Row.new w1 89 [.map (some (w.heap.size + 1 + 1 + 1 + 1)), .int .i64 0, .int .i64 0, .int .i64 0, .int .i64 0, .bool false]
  have b0 := (Below.refl w1.heap.size w1).alloc (Nat.le_refl _) (.cells #[.map (some (w.heap.size + 1 + 1 + 1 + 1)), .int .i64 0, .int .i64 0, .int .i64 0, .int .i64 0, .bool false] 89)
  have z0 := size_al w1 (.cells #[.map (some (w.heap.size + 1 + 1 + 1 + 1)), .int .i64 0, .int .i64 0, .int .i64 0, .int .i64 0, .bool false] 89)
  generalize w1.alloc (.cells #[.map (some (w.heap.size + 1 + 1 + 1 + 1)), .int .i64 0, .int .i64 0, .int .i64 0, .int .i64 0, .bool false] 89) = w2 at *
  have a1 := Row.new w2 77 [.int .i64 f0, .int .i64 f1, .int .i64 f2, .int .i64 f3]
  have b1 := (Below.refl w2.heap.size w2).alloc (Nat.le_refl _) (.cells #[.int .i64 f0, .int .i64 f1, .int .i64 f2, .int .i64 f3] 77)
  have z1 := size_al w2 (.cells #[.int .i64 f0, .int .i64 f1, .int .i64 f2, .int .i64 f3] 77)
  generalize w2.alloc (.cells #[.int .i64 f0, .int .i64 f1, .int .i64 f2, .int .i64 f3] 77) = w3 at *
  have a2 := Row.new w3 102 [.slice (some ⟨w1.heap.size + 1, 0, none⟩) 1 1]
  have b2 := (Below.refl w3.heap.size w3).alloc (Nat.le_refl _) (.cells #[.slice (some ⟨w1.heap.size + 1, 0, none⟩) 1 1] 102)
  generalize w3.alloc (.cells #[.slice (some ⟨w1.heap.size + 1, 0, none⟩) 1 1] 102) = w4 at *
  have hSz := hb.rS.lt
  have b02 := Below.andThen b0 (Below.andThen b1 b2 (by omega)) (by omega)
  rw [z0] at a1
  rw [z1, z0] at a2
  refine ⟨hb.below b02 hSz, (a0.below b1 (by omega)).below b2 (by omega), a2, ⟨fun q hq => ?_, w1.heap.size + 1, 0, 1, _, rfl, Nat.zero_le _, a1.below b2 (by omega), Nat.le_refl _, by decide, by simp, by simp [encI]⟩, fun g hg => ?_, hs.grow b02, Below.andThen bw b02 (Nat.le_refl _), hSz, ⟨by simp; omega, by simp⟩, fun p hp => ?_, fun q hq => ?_⟩
  · rw [List.mem_singleton.1 hq]; rfl
  · simp only [Value.ownBlock, Option.map_some, Option.some.injEq] at hg
    omega
  · rw [List.mem_singleton.1 hp]; exact ⟨hF, by simp [c0], by simp [c0], by simp [c0]; omega⟩
  · rw [List.mem_singleton.1 hq]; exact hF
/-- the count that a filling's steps get -/
def cntA (A : Sn) (F : List Int) : Int := ((lookA A F).map Cm.k).getD 0 + 1
/-- the map's own word of a filling -/
theorem look_here {W : World} {b n : Nat} {A : Sn} (hs : SeenAt W b n (seenV A)) {q0 q1 q2 q3 : Int} (hF : Fok [q0, q1, q2, q3]) (hA : ∀ p ∈ A, p.2.frm.length = 4) :
    ∃ x0 x1 x2 x3 x4 x5 : Int, (Instr.lookup 74 (.map (some b)) (.agg #[.int .i64 q0, .int .i64 q1, .int .i64 q2, .int .i64 q3]) false).run Try.prog W = .ok (.agg #[.int .i64 x0, .int .i64 x1, .int .i64 x2, .int .i64 x3, .int .i64 x4, .int .i64 x5, .int .i64 (cntA A [q0, q1, q2, q3] - 1)]) W := by
  have h := hs.look1 hF
  rw [show aggI [q0, q1, q2, q3] = .agg #[.int .i64 q0, .int .i64 q1, .int .i64 q2, .int .i64 q3] from rfl] at h
  rw [h]
  unfold seenV cntA
  cases hl : lookA A [q0, q1, q2, q3] with
  | none => exact ⟨0, 0, 0, 0, 0, 0, rfl⟩
  | some c =>
    obtain ⟨a, b, c', d, e⟩ := agg4 c.frm (hA _ (lookA_mem _ _ _ hl))
    refine ⟨a, b, c', d, c.sa, c.sb, ?_⟩
    simp [Cm.V, e, encI]
end Go.Proofs.Ytlamppplnojpbaa
