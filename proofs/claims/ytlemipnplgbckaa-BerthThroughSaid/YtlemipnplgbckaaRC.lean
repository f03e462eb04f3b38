/-
  BerthThrough at commit 537677c: the law returns true at every input, and the input reads behind the call as it read before. No condition.
-/
import Derived.Test.YtlemipnplgbckaaRows
import Derived.ProofKit
import Derived.ChangeSame
import Derived.JoinedOf
import Derived.JoinedAt
import Derived.RowKit3
import Derived.Lib.SmallJoins
import Derived.Test.YtlemipnplgbckaaRB
import Derived.Test.YtlemipnplgbckaaMG
namespace Go.Proofs.Ytlemipnplgbckaa
open Go.ChangeShapes Go.WideShapes Go.ChangeAt Go.RowKit Go.Joins
theorem laidOut_BerthThrough : laidOutB Try.prog = true := by kernel_rfl
set_option maxRecDepth 100000 in
theorem liftedBerthThrough (os : Os) (started : os.Started) (H : Type) (enc : TypeId × Value → H) :
    ReturnsInHanded {} Try.checked os 5 .any (Rows.berthThroughSpec.pre6 enc Try.prog Try.f5 Rows.berthThroughRow.domain false) (Rows.berthThroughSpec.post enc Try.prog Try.f5 false true false false) := by
  refine returnsInHanded_of_change (C := Try.checked) (by kernel_rfl) started (by kernel_rfl) Try.func5
    (ChangeSpec.witness6 (enc := enc) (C := Try.checked) false ⟨#[], #[.agg #[.int .i64 0, .int .i64 0], .agg #[.int .i64 0, .int .i64 0], .agg #[.int .i64 0, .int .i64 0]], []⟩ 8 (by kernel_rfl) (by kernel_rfl) (by kernel_rfl) (by kernel_rfl)) ?_
  intro W base args ds gs before hval0 hW hcnd _
  have hval : ∀ (j : Nat) t v, Try.f5.params[j]? = some t → args[j]? = some v → Value.okWide Try.prog W .any base t v := hval0
  have hW' := hW
  obtain ⟨p, q, hA0, hV, rfl, hfz, hnd⟩ := hW
  have hA : DataW.TrodAll enc Try.prog W 0 (fun _ => true) true Try.f5.params.toList args.toList ds p := hA0
  rw [Try.params5] at hA hval
  obtain ⟨v0, v1, v2, d0, d1, d2, p0, p1, p2, rfl, rfl, rfl, h0, h1, h2⟩ := trodAll_three hA
  obtain ⟨rfl, rfl⟩ := trodVars_none hV
  have h0k := h0
  obtain ⟨a0, b0, rfl, rfl, ia0, ib0⟩ := open_pt (hval 0 28 v0 rfl rfl) h0
  have h1k := h1
  obtain ⟨a1, b1, rfl, rfl, ia1, ib1⟩ := open_pt (hval 1 28 v1 rfl rfl) h1
  have h2k := h2
  obtain ⟨a2, b2, rfl, rfl, ia2, ib2⟩ := open_pt (hval 2 28 v2 rfl rfl) h2
  clear hA0 hval0
  try simp only [List.append_nil] at hW'
  refine (BerthThrough_any a0 b0 a1 b1 a2 b2 W).mono fun e W' ⟨he, hbelow⟩ => ?_
  subst he
  refine ⟨_, rfl, _, _, _, [], _, [], hW', trodAll_mk1 (shut_bool Try.underlying4 true), trodAll_mk3 (Below.trod laidOut_BerthThrough (by kernel_rfl) (of_decide_eq_true (by kernel_rfl)) h0k hbelow (fun x hx => by simp at hx)) (Below.trod laidOut_BerthThrough (by kernel_rfl) (of_decide_eq_true (by kernel_rfl)) h1k hbelow (fun x hx => by simp at hx)) (Below.trod laidOut_BerthThrough (by kernel_rfl) (of_decide_eq_true (by kernel_rfl)) h2k hbelow (fun x hx => by simp at hx)), rfl, hbelow.frame _, fun h => by cases h⟩

theorem berthThrough_holds : Rows.BerthThroughSaid :=
  OpenClaim.holds_of_wide 5 Try.f5 rfl rfl rfl rfl rfl rfl rfl ⟨rfl, rfl, rfl, rfl, rfl⟩ rfl rfl rfl rfl rfl (by kernel_rfl) Try.func5 (by kernel_rfl)
    (of_decide_eq_true (by kernel_rfl)) (by unfold Func.isWrapper; rw [if_neg (by decide +kernel)]; exact ⟨rfl, rfl⟩)
    (fun os started H enc _ => liftedBerthThrough os started H enc)
end Go.Proofs.Ytlemipnplgbckaa
