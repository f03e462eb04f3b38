/-
  No cell of these rows narrows 'for every input' (looked for: loops, veiled, ifaces, maps, wideKeys, modest, calm, conditions, laid).
  DERIVED. THE GIVEN ROWS OF THIS SEAT. 12 by the template 'for every input the law returns true; each argument reads behind the call as it read before'; 0 by the template 'total and deterministic' (their statements: YtlemipnplgbckaaTotals.lean).
  GIVEN WITH THE SEED: the statements are not yours to turn. If you find one false, say at which input.
  Laid BY PROGRAM, IN A SANDBOX (cutbox-rows.mjs): the forced cells as the released guide's own fill.sh prints them over the translation 6eced6f6c0d48daf… (all of the seat's roots in one cut). By AI agents, Wed Nov 11 2026. No macro, syntax, notation, axiom, sorry.
-/
import Derived.Test.YtlemipnplgbckaaChecked
import GoSem.Claim
import GoSem.ClaimJoined
import GoSem.ClaimMapViews
import Derived.JoinedTies
import Derived.KernelRfl
namespace Go.Proofs.Ytlemipnplgbckaa
/- THE CELL 'sum', in the pinned program and in every row, IS THE sha256 OF THE DUMP (.gsa) THAT YtlemipnplgbckaaProg.lean LOADS. Nothing in Lean hashes anything: it is a label: what it is worth is what the hold of that sum in a sandbox is worth. -/
noncomputable def Try.pinned : Pinned := { name := "ytlemipnplgbckaa", sum := "6eced6f6c0d48daf814426db676051bf1ccb43ef9c4f2a4ab8f1ba58af803643", checked := Try.checked }
namespace Rows
def none {H : Type} : Left H := { results := [], args := [] }

/-- 'careenlaw04.BerthChecks': WHATEVER THE INPUT: true; the input reads as it did. -/
def berthChecksSpec : ChangeSpec := { name := "berthChecks", fn := fun _ => fun
  | [d] => { results := [.lit (.bool true)], args := [d] }
  | _ => none }
def berthChecksRow : OpenClaim := { program := "ytlemipnplgbckaa", sum := "6eced6f6c0d48daf814426db676051bf1ccb43ef9c4f2a4ab8f1ba58af803643", func := "careen/careenlaw04.BerthChecks", spec := "berthChecks", unfollowed := true, recurses := true, apart := false }
def BerthChecksSaid : Prop := berthChecksRow.holds Try.pinned (OpenSpec.ofChange berthChecksSpec)

/-- ITS FALSE NEIGHBOUR: 'it returns false'. Refute it at one input. -/
def berthChecksWrong : ChangeSpec := { name := "berthChecks", fn := fun _ => fun
  | [d] => { results := [.lit (.bool false)], args := [d] }
  | _ => none }
def BerthChecksWrongFalsely : Prop := berthChecksRow.holds Try.pinned (OpenSpec.ofChange berthChecksWrong)

/-- 'careenlaw04.BerthCircles': WHATEVER THE INPUT: true; the input reads as it did. -/
def berthCirclesSpec : ChangeSpec := { name := "berthCircles", fn := fun _ => fun
  | [d1, d2, d3] => { results := [.lit (.bool true)], args := [d1, d2, d3] }
  | _ => none }
def berthCirclesRow : OpenClaim := { program := "ytlemipnplgbckaa", sum := "6eced6f6c0d48daf814426db676051bf1ccb43ef9c4f2a4ab8f1ba58af803643", func := "careen/careenlaw04.BerthCircles", spec := "berthCircles", unfollowed := true, recurses := true, apart := false }
def BerthCirclesSaid : Prop := berthCirclesRow.holds Try.pinned (OpenSpec.ofChange berthCirclesSpec)

/-- ITS FALSE NEIGHBOUR: 'it returns false'. Refute it at one input. -/
def berthCirclesWrong : ChangeSpec := { name := "berthCircles", fn := fun _ => fun
  | [d1, d2, d3] => { results := [.lit (.bool false)], args := [d1, d2, d3] }
  | _ => none }
def BerthCirclesWrongFalsely : Prop := berthCirclesRow.holds Try.pinned (OpenSpec.ofChange berthCirclesWrong)

/-- 'careenlaw04.BerthThrough': WHATEVER THE INPUT: true; the input reads as it did. -/
def berthThroughSpec : ChangeSpec := { name := "berthThrough", fn := fun _ => fun
  | [d1, d2, d3] => { results := [.lit (.bool true)], args := [d1, d2, d3] }
  | _ => none }
def berthThroughRow : OpenClaim := { program := "ytlemipnplgbckaa", sum := "6eced6f6c0d48daf814426db676051bf1ccb43ef9c4f2a4ab8f1ba58af803643", func := "careen/careenlaw04.BerthThrough", spec := "berthThrough", unfollowed := true, recurses := true, apart := false }
def BerthThroughSaid : Prop := berthThroughRow.holds Try.pinned (OpenSpec.ofChange berthThroughSpec)

/-- ITS FALSE NEIGHBOUR: 'it returns false'. Refute it at one input. -/
def berthThroughWrong : ChangeSpec := { name := "berthThrough", fn := fun _ => fun
  | [d1, d2, d3] => { results := [.lit (.bool false)], args := [d1, d2, d3] }
  | _ => none }
def BerthThroughWrongFalsely : Prop := berthThroughRow.holds Try.pinned (OpenSpec.ofChange berthThroughWrong)

/-- 'careenlaw04.BerthSmallest': WHATEVER THE INPUT: true; the input reads as it did. -/
def berthSmallestSpec : ChangeSpec := { name := "berthSmallest", fn := fun _ => fun
  | [d] => { results := [.lit (.bool true)], args := [d] }
  | _ => none }
def berthSmallestRow : OpenClaim := { program := "ytlemipnplgbckaa", sum := "6eced6f6c0d48daf814426db676051bf1ccb43ef9c4f2a4ab8f1ba58af803643", func := "careen/careenlaw04.BerthSmallest", spec := "berthSmallest", unfollowed := true, recurses := true, apart := false }
def BerthSmallestSaid : Prop := berthSmallestRow.holds Try.pinned (OpenSpec.ofChange berthSmallestSpec)

/-- ITS FALSE NEIGHBOUR: 'it returns false'. Refute it at one input. -/
def berthSmallestWrong : ChangeSpec := { name := "berthSmallest", fn := fun _ => fun
  | [d] => { results := [.lit (.bool false)], args := [d] }
  | _ => none }
def BerthSmallestWrongFalsely : Prop := berthSmallestRow.holds Try.pinned (OpenSpec.ofChange berthSmallestWrong)

/-- 'careenlaw04.BerthJudges': WHATEVER THE INPUT: true; the input reads as it did. -/
def berthJudgesSpec : ChangeSpec := { name := "berthJudges", fn := fun _ => fun
  | [d1, d2, d3] => { results := [.lit (.bool true)], args := [d1, d2, d3] }
  | _ => none }
def berthJudgesRow : OpenClaim := { program := "ytlemipnplgbckaa", sum := "6eced6f6c0d48daf814426db676051bf1ccb43ef9c4f2a4ab8f1ba58af803643", func := "careen/careenlaw04.BerthJudges", spec := "berthJudges", unfollowed := true, recurses := true, apart := false }
def BerthJudgesSaid : Prop := berthJudgesRow.holds Try.pinned (OpenSpec.ofChange berthJudgesSpec)

/-- ITS FALSE NEIGHBOUR: 'it returns false'. Refute it at one input. -/
def berthJudgesWrong : ChangeSpec := { name := "berthJudges", fn := fun _ => fun
  | [d1, d2, d3] => { results := [.lit (.bool false)], args := [d1, d2, d3] }
  | _ => none }
def BerthJudgesWrongFalsely : Prop := berthJudgesRow.holds Try.pinned (OpenSpec.ofChange berthJudgesWrong)

/-- 'careenlaw04.BerthEmpty': WHATEVER THE INPUT: true; the input reads as it did. -/
def berthEmptySpec : ChangeSpec := { name := "berthEmpty", fn := fun _ => fun
  | [d] => { results := [.lit (.bool true)], args := [d] }
  | _ => none }
def berthEmptyRow : OpenClaim := { program := "ytlemipnplgbckaa", sum := "6eced6f6c0d48daf814426db676051bf1ccb43ef9c4f2a4ab8f1ba58af803643", func := "careen/careenlaw04.BerthEmpty", spec := "berthEmpty", unfollowed := true, recurses := true, apart := false }
def BerthEmptySaid : Prop := berthEmptyRow.holds Try.pinned (OpenSpec.ofChange berthEmptySpec)

/-- ITS FALSE NEIGHBOUR: 'it returns false'. Refute it at one input. -/
def berthEmptyWrong : ChangeSpec := { name := "berthEmpty", fn := fun _ => fun
  | [d] => { results := [.lit (.bool false)], args := [d] }
  | _ => none }
def BerthEmptyWrongFalsely : Prop := berthEmptyRow.holds Try.pinned (OpenSpec.ofChange berthEmptyWrong)

/-- 'careenlaw04.BerthNearest': WHATEVER THE INPUT: true; the input reads as it did. -/
def berthNearestSpec : ChangeSpec := { name := "berthNearest", fn := fun _ => fun
  | [d1, d2] => { results := [.lit (.bool true)], args := [d1, d2] }
  | _ => none }
def berthNearestRow : OpenClaim := { program := "ytlemipnplgbckaa", sum := "6eced6f6c0d48daf814426db676051bf1ccb43ef9c4f2a4ab8f1ba58af803643", func := "careen/careenlaw04.BerthNearest", spec := "berthNearest", unfollowed := true, recurses := true, apart := false }
def BerthNearestSaid : Prop := berthNearestRow.holds Try.pinned (OpenSpec.ofChange berthNearestSpec)

/-- ITS FALSE NEIGHBOUR: 'it returns false'. Refute it at one input. -/
def berthNearestWrong : ChangeSpec := { name := "berthNearest", fn := fun _ => fun
  | [d1, d2] => { results := [.lit (.bool false)], args := [d1, d2] }
  | _ => none }
def BerthNearestWrongFalsely : Prop := berthNearestRow.holds Try.pinned (OpenSpec.ofChange berthNearestWrong)

/-- 'careenlaw04.BerthHolds': WHATEVER THE INPUT: true; the input reads as it did. -/
def berthHoldsSpec : ChangeSpec := { name := "berthHolds", fn := fun _ => fun
  | [d1, d2] => { results := [.lit (.bool true)], args := [d1, d2] }
  | _ => none }
def berthHoldsRow : OpenClaim := { program := "ytlemipnplgbckaa", sum := "6eced6f6c0d48daf814426db676051bf1ccb43ef9c4f2a4ab8f1ba58af803643", func := "careen/careenlaw04.BerthHolds", spec := "berthHolds", unfollowed := true, recurses := true, apart := false }
def BerthHoldsSaid : Prop := berthHoldsRow.holds Try.pinned (OpenSpec.ofChange berthHoldsSpec)

/-- ITS FALSE NEIGHBOUR: 'it returns false'. Refute it at one input. -/
def berthHoldsWrong : ChangeSpec := { name := "berthHolds", fn := fun _ => fun
  | [d1, d2] => { results := [.lit (.bool false)], args := [d1, d2] }
  | _ => none }
def BerthHoldsWrongFalsely : Prop := berthHoldsRow.holds Try.pinned (OpenSpec.ofChange berthHoldsWrong)

/-- 'careenlaw04.BerthJung': WHATEVER THE INPUT: true; the input reads as it did. -/
def berthJungSpec : ChangeSpec := { name := "berthJung", fn := fun _ => fun
  | [d1, d2] => { results := [.lit (.bool true)], args := [d1, d2] }
  | _ => none }
def berthJungRow : OpenClaim := { program := "ytlemipnplgbckaa", sum := "6eced6f6c0d48daf814426db676051bf1ccb43ef9c4f2a4ab8f1ba58af803643", func := "careen/careenlaw04.BerthJung", spec := "berthJung", unfollowed := true, recurses := true, apart := false }
def BerthJungSaid : Prop := berthJungRow.holds Try.pinned (OpenSpec.ofChange berthJungSpec)

/-- ITS FALSE NEIGHBOUR: 'it returns false'. Refute it at one input. -/
def berthJungWrong : ChangeSpec := { name := "berthJung", fn := fun _ => fun
  | [d1, d2] => { results := [.lit (.bool false)], args := [d1, d2] }
  | _ => none }
def BerthJungWrongFalsely : Prop := berthJungRow.holds Try.pinned (OpenSpec.ofChange berthJungWrong)

/-- 'careenlaw04.BerthDelaunay': WHATEVER THE INPUT: true; the input reads as it did. -/
def berthDelaunaySpec : ChangeSpec := { name := "berthDelaunay", fn := fun _ => fun
  | [d] => { results := [.lit (.bool true)], args := [d] }
  | _ => none }
def berthDelaunayRow : OpenClaim := { program := "ytlemipnplgbckaa", sum := "6eced6f6c0d48daf814426db676051bf1ccb43ef9c4f2a4ab8f1ba58af803643", func := "careen/careenlaw04.BerthDelaunay", spec := "berthDelaunay", unfollowed := true, recurses := true, apart := false }
def BerthDelaunaySaid : Prop := berthDelaunayRow.holds Try.pinned (OpenSpec.ofChange berthDelaunaySpec)

/-- ITS FALSE NEIGHBOUR: 'it returns false'. Refute it at one input. -/
def berthDelaunayWrong : ChangeSpec := { name := "berthDelaunay", fn := fun _ => fun
  | [d] => { results := [.lit (.bool false)], args := [d] }
  | _ => none }
def BerthDelaunayWrongFalsely : Prop := berthDelaunayRow.holds Try.pinned (OpenSpec.ofChange berthDelaunayWrong)

/-- 'careenlaw04.BerthNear': WHATEVER THE INPUT: true; the input reads as it did. -/
def berthNearSpec : ChangeSpec := { name := "berthNear", fn := fun _ => fun
  | [d1, d2] => { results := [.lit (.bool true)], args := [d1, d2] }
  | _ => none }
def berthNearRow : OpenClaim := { program := "ytlemipnplgbckaa", sum := "6eced6f6c0d48daf814426db676051bf1ccb43ef9c4f2a4ab8f1ba58af803643", func := "careen/careenlaw04.BerthNear", spec := "berthNear", unfollowed := true, recurses := true, apart := false }
def BerthNearSaid : Prop := berthNearRow.holds Try.pinned (OpenSpec.ofChange berthNearSpec)

/-- ITS FALSE NEIGHBOUR: 'it returns false'. Refute it at one input. -/
def berthNearWrong : ChangeSpec := { name := "berthNear", fn := fun _ => fun
  | [d1, d2] => { results := [.lit (.bool false)], args := [d1, d2] }
  | _ => none }
def BerthNearWrongFalsely : Prop := berthNearRow.holds Try.pinned (OpenSpec.ofChange berthNearWrong)

/-- 'careenlaw04.BerthOwn': WHATEVER THE INPUT: true; the input reads as it did. -/
def berthOwnSpec : ChangeSpec := { name := "berthOwn", fn := fun _ => fun
  | [d1, d2] => { results := [.lit (.bool true)], args := [d1, d2] }
  | _ => none }
def berthOwnRow : OpenClaim := { program := "ytlemipnplgbckaa", sum := "6eced6f6c0d48daf814426db676051bf1ccb43ef9c4f2a4ab8f1ba58af803643", func := "careen/careenlaw04.BerthOwn", spec := "berthOwn", unfollowed := true, recurses := true, apart := false }
def BerthOwnSaid : Prop := berthOwnRow.holds Try.pinned (OpenSpec.ofChange berthOwnSpec)

/-- ITS FALSE NEIGHBOUR: 'it returns false'. Refute it at one input. -/
def berthOwnWrong : ChangeSpec := { name := "berthOwn", fn := fun _ => fun
  | [d1, d2] => { results := [.lit (.bool false)], args := [d1, d2] }
  | _ => none }
def BerthOwnWrongFalsely : Prop := berthOwnRow.holds Try.pinned (OpenSpec.ofChange berthOwnWrong)

/- THE SECOND FORM. 'bulk': how many values and letters a reading holds, each counted each time it is reached (what is shared counts as often as it is met; a slice's spare places count too). A statement '..UptoSaid' is the law's where the arguments, and the package variables that the reading takes, are together of bulk at most 1048576: NARROWER than '..Said'. Prove '..Said' where nothing that the law and all that it calls make is longer than what came in: it says more and counts as full. Else prove '..UptoSaid'. A law counts once. -/
mutual
def uptoBulk {H : Type} : DataW H → Nat
  | .lit (.string bytes) => bytes.length + 1
  | .lit _ => 1
  | .nil => 1
  | .ptr d => uptoBulk d + 1
  | .slice elems spare => uptoBulkAll elems + uptoBulkAll spare + 1
  | .agg parts => uptoBulkAll parts + 1
  | .iface _ d => uptoBulk d + 1
  | .map entries => uptoBulkEntries entries + 1
  | .held _ => 1
def uptoBulkAll {H : Type} : List (DataW H) → Nat
  | [] => 0
  | d :: r => uptoBulk d + uptoBulkAll r
def uptoBulkEntries {H : Type} : List (Lit × DataW H) → Nat
  | [] => 0
  | x :: r => uptoBulkEntry x + uptoBulkEntries r
def uptoBulkEntry {H : Type} : Lit × DataW H → Nat
  | (.string bytes, d) => bytes.length + uptoBulk d + 1
  | (_, d) => uptoBulk d + 1
 end
def uptoSmall : (H : Type) → List (DataW H) → Bool := fun _ ds => decide (uptoBulkAll ds ≤ 1048576)
def OpenSpec.upto (s : _root_.Go.ChangeSpec) : _root_.Go.OpenSpec := { _root_.Go.OpenSpec.ofChange s with cond := some uptoSmall }

/-- 'careenlaw04.BerthChecks', WHERE WHAT IT READS IS OF BULK AT MOST 1048576: true; the input reads as it did. -/
def berthChecksUptoRow : OpenClaim := { program := "ytlemipnplgbckaa", sum := "6eced6f6c0d48daf814426db676051bf1ccb43ef9c4f2a4ab8f1ba58af803643", func := "careen/careenlaw04.BerthChecks", spec := "berthChecks", unfollowed := true, recurses := true, apart := false, narrowed := true }
def BerthChecksUptoSaid : Prop := berthChecksUptoRow.holds Try.pinned (OpenSpec.upto berthChecksSpec)

/-- 'careenlaw04.BerthCircles', WHERE WHAT IT READS IS OF BULK AT MOST 1048576: true; the input reads as it did. -/
def berthCirclesUptoRow : OpenClaim := { program := "ytlemipnplgbckaa", sum := "6eced6f6c0d48daf814426db676051bf1ccb43ef9c4f2a4ab8f1ba58af803643", func := "careen/careenlaw04.BerthCircles", spec := "berthCircles", unfollowed := true, recurses := true, apart := false, narrowed := true }
def BerthCirclesUptoSaid : Prop := berthCirclesUptoRow.holds Try.pinned (OpenSpec.upto berthCirclesSpec)

/-- 'careenlaw04.BerthThrough', WHERE WHAT IT READS IS OF BULK AT MOST 1048576: true; the input reads as it did. -/
def berthThroughUptoRow : OpenClaim := { program := "ytlemipnplgbckaa", sum := "6eced6f6c0d48daf814426db676051bf1ccb43ef9c4f2a4ab8f1ba58af803643", func := "careen/careenlaw04.BerthThrough", spec := "berthThrough", unfollowed := true, recurses := true, apart := false, narrowed := true }
def BerthThroughUptoSaid : Prop := berthThroughUptoRow.holds Try.pinned (OpenSpec.upto berthThroughSpec)

/-- 'careenlaw04.BerthSmallest', WHERE WHAT IT READS IS OF BULK AT MOST 1048576: true; the input reads as it did. -/
def berthSmallestUptoRow : OpenClaim := { program := "ytlemipnplgbckaa", sum := "6eced6f6c0d48daf814426db676051bf1ccb43ef9c4f2a4ab8f1ba58af803643", func := "careen/careenlaw04.BerthSmallest", spec := "berthSmallest", unfollowed := true, recurses := true, apart := false, narrowed := true }
def BerthSmallestUptoSaid : Prop := berthSmallestUptoRow.holds Try.pinned (OpenSpec.upto berthSmallestSpec)

/-- 'careenlaw04.BerthJudges', WHERE WHAT IT READS IS OF BULK AT MOST 1048576: true; the input reads as it did. -/
def berthJudgesUptoRow : OpenClaim := { program := "ytlemipnplgbckaa", sum := "6eced6f6c0d48daf814426db676051bf1ccb43ef9c4f2a4ab8f1ba58af803643", func := "careen/careenlaw04.BerthJudges", spec := "berthJudges", unfollowed := true, recurses := true, apart := false, narrowed := true }
def BerthJudgesUptoSaid : Prop := berthJudgesUptoRow.holds Try.pinned (OpenSpec.upto berthJudgesSpec)

/-- 'careenlaw04.BerthEmpty', WHERE WHAT IT READS IS OF BULK AT MOST 1048576: true; the input reads as it did. -/
def berthEmptyUptoRow : OpenClaim := { program := "ytlemipnplgbckaa", sum := "6eced6f6c0d48daf814426db676051bf1ccb43ef9c4f2a4ab8f1ba58af803643", func := "careen/careenlaw04.BerthEmpty", spec := "berthEmpty", unfollowed := true, recurses := true, apart := false, narrowed := true }
def BerthEmptyUptoSaid : Prop := berthEmptyUptoRow.holds Try.pinned (OpenSpec.upto berthEmptySpec)

/-- 'careenlaw04.BerthNearest', WHERE WHAT IT READS IS OF BULK AT MOST 1048576: true; the input reads as it did. -/
def berthNearestUptoRow : OpenClaim := { program := "ytlemipnplgbckaa", sum := "6eced6f6c0d48daf814426db676051bf1ccb43ef9c4f2a4ab8f1ba58af803643", func := "careen/careenlaw04.BerthNearest", spec := "berthNearest", unfollowed := true, recurses := true, apart := false, narrowed := true }
def BerthNearestUptoSaid : Prop := berthNearestUptoRow.holds Try.pinned (OpenSpec.upto berthNearestSpec)

/-- 'careenlaw04.BerthHolds', WHERE WHAT IT READS IS OF BULK AT MOST 1048576: true; the input reads as it did. -/
def berthHoldsUptoRow : OpenClaim := { program := "ytlemipnplgbckaa", sum := "6eced6f6c0d48daf814426db676051bf1ccb43ef9c4f2a4ab8f1ba58af803643", func := "careen/careenlaw04.BerthHolds", spec := "berthHolds", unfollowed := true, recurses := true, apart := false, narrowed := true }
def BerthHoldsUptoSaid : Prop := berthHoldsUptoRow.holds Try.pinned (OpenSpec.upto berthHoldsSpec)

/-- 'careenlaw04.BerthJung', WHERE WHAT IT READS IS OF BULK AT MOST 1048576: true; the input reads as it did. -/
def berthJungUptoRow : OpenClaim := { program := "ytlemipnplgbckaa", sum := "6eced6f6c0d48daf814426db676051bf1ccb43ef9c4f2a4ab8f1ba58af803643", func := "careen/careenlaw04.BerthJung", spec := "berthJung", unfollowed := true, recurses := true, apart := false, narrowed := true }
def BerthJungUptoSaid : Prop := berthJungUptoRow.holds Try.pinned (OpenSpec.upto berthJungSpec)

/-- 'careenlaw04.BerthDelaunay', WHERE WHAT IT READS IS OF BULK AT MOST 1048576: true; the input reads as it did. -/
def berthDelaunayUptoRow : OpenClaim := { program := "ytlemipnplgbckaa", sum := "6eced6f6c0d48daf814426db676051bf1ccb43ef9c4f2a4ab8f1ba58af803643", func := "careen/careenlaw04.BerthDelaunay", spec := "berthDelaunay", unfollowed := true, recurses := true, apart := false, narrowed := true }
def BerthDelaunayUptoSaid : Prop := berthDelaunayUptoRow.holds Try.pinned (OpenSpec.upto berthDelaunaySpec)

/-- 'careenlaw04.BerthNear', WHERE WHAT IT READS IS OF BULK AT MOST 1048576: true; the input reads as it did. -/
def berthNearUptoRow : OpenClaim := { program := "ytlemipnplgbckaa", sum := "6eced6f6c0d48daf814426db676051bf1ccb43ef9c4f2a4ab8f1ba58af803643", func := "careen/careenlaw04.BerthNear", spec := "berthNear", unfollowed := true, recurses := true, apart := false, narrowed := true }
def BerthNearUptoSaid : Prop := berthNearUptoRow.holds Try.pinned (OpenSpec.upto berthNearSpec)

/-- 'careenlaw04.BerthOwn', WHERE WHAT IT READS IS OF BULK AT MOST 1048576: true; the input reads as it did. -/
def berthOwnUptoRow : OpenClaim := { program := "ytlemipnplgbckaa", sum := "6eced6f6c0d48daf814426db676051bf1ccb43ef9c4f2a4ab8f1ba58af803643", func := "careen/careenlaw04.BerthOwn", spec := "berthOwn", unfollowed := true, recurses := true, apart := false, narrowed := true }
def BerthOwnUptoSaid : Prop := berthOwnUptoRow.holds Try.pinned (OpenSpec.upto berthOwnSpec)

end Rows
end Go.Proofs.Ytlemipnplgbckaa
