/-
  No cell of these rows narrows 'for every input' (looked for: loops, veiled, ifaces, maps, wideKeys, modest, calm, conditions, laid).
  DERIVED. THE GIVEN ROWS OF THIS SEAT. 13 by the template 'for every input the law returns true; each argument reads behind the call as it read before'; 0 by the template 'total and deterministic' (their statements: YtlamppplnojpbaaTotals.lean).
  GIVEN WITH THE SEED: the statements are not yours to turn. If you find one false, say at which input.
  Laid BY PROGRAM, IN A SANDBOX (cutbox-rows.mjs): the forced cells as the released guide's own fill.sh prints them over the translation 8ce2ab51e25f0605… (all of the seat's roots in one cut). By AI agents, Wed Nov 11 2026. No macro, syntax, notation, axiom, sorry.
-/
import Derived.Test.YtlamppplnojpbaaChecked
import GoSem.Claim
import GoSem.ClaimJoined
import GoSem.ClaimMapViews
import Derived.JoinedTies
import Derived.KernelRfl
namespace Go.Proofs.Ytlamppplnojpbaa
/- THE CELL 'sum', in the pinned program and in every row, IS THE sha256 OF THE DUMP (.gsa) THAT YtlamppplnojpbaaProg.lean LOADS. Nothing in Lean hashes anything: it is a label: what it is worth is what the hold of that sum in a sandbox is worth. -/
noncomputable def Try.pinned : Pinned := { name := "ytlamppplnojpbaa", sum := "8ce2ab51e25f0605d5b7a9c6ad2e21049b51ad8bf552520f27c92d807f48697a", checked := Try.checked }
namespace Rows
def none {H : Type} : Left H := { results := [], args := [] }

/-- 'careenlaw02.JugChecks': WHATEVER THE INPUT: true; the input reads as it did. -/
def jugChecksSpec : ChangeSpec := { name := "jugChecks", fn := fun _ => fun
  | [d1, d2] => { results := [.lit (.bool true)], args := [d1, d2] }
  | _ => none }
def jugChecksRow : OpenClaim := { program := "ytlamppplnojpbaa", sum := "8ce2ab51e25f0605d5b7a9c6ad2e21049b51ad8bf552520f27c92d807f48697a", func := "careen/careenlaw02.JugChecks", spec := "jugChecks", unfollowed := true, recurses := true, plainKeys := false, apart := false }
def JugChecksSaid : Prop := jugChecksRow.holds Try.pinned (OpenSpec.ofChange jugChecksSpec)

/-- ITS FALSE NEIGHBOUR: 'it returns false'. Refute it at one input. -/
def jugChecksWrong : ChangeSpec := { name := "jugChecks", fn := fun _ => fun
  | [d1, d2] => { results := [.lit (.bool false)], args := [d1, d2] }
  | _ => none }
def JugChecksWrongFalsely : Prop := jugChecksRow.holds Try.pinned (OpenSpec.ofChange jugChecksWrong)

/-- 'careenlaw02.JugSteps': WHATEVER THE INPUT: true; the input reads as it did. -/
def jugStepsSpec : ChangeSpec := { name := "jugSteps", fn := fun _ => fun
  | [d1, d2] => { results := [.lit (.bool true)], args := [d1, d2] }
  | _ => none }
def jugStepsRow : OpenClaim := { program := "ytlamppplnojpbaa", sum := "8ce2ab51e25f0605d5b7a9c6ad2e21049b51ad8bf552520f27c92d807f48697a", func := "careen/careenlaw02.JugSteps", spec := "jugSteps", unfollowed := true, recurses := true, plainKeys := false, apart := false }
def JugStepsSaid : Prop := jugStepsRow.holds Try.pinned (OpenSpec.ofChange jugStepsSpec)

/-- ITS FALSE NEIGHBOUR: 'it returns false'. Refute it at one input. -/
def jugStepsWrong : ChangeSpec := { name := "jugSteps", fn := fun _ => fun
  | [d1, d2] => { results := [.lit (.bool false)], args := [d1, d2] }
  | _ => none }
def JugStepsWrongFalsely : Prop := jugStepsRow.holds Try.pinned (OpenSpec.ofChange jugStepsWrong)

/-- 'careenlaw02.JugPours': WHATEVER THE INPUT: true; the input reads as it did. -/
def jugPoursSpec : ChangeSpec := { name := "jugPours", fn := fun _ => fun
  | [d1, d2, d3] => { results := [.lit (.bool true)], args := [d1, d2, d3] }
  | _ => none }
def jugPoursRow : OpenClaim := { program := "ytlamppplnojpbaa", sum := "8ce2ab51e25f0605d5b7a9c6ad2e21049b51ad8bf552520f27c92d807f48697a", func := "careen/careenlaw02.JugPours", spec := "jugPours", unfollowed := true, recurses := true, plainKeys := false, apart := false }
def JugPoursSaid : Prop := jugPoursRow.holds Try.pinned (OpenSpec.ofChange jugPoursSpec)

/-- ITS FALSE NEIGHBOUR: 'it returns false'. Refute it at one input. -/
def jugPoursWrong : ChangeSpec := { name := "jugPours", fn := fun _ => fun
  | [d1, d2, d3] => { results := [.lit (.bool false)], args := [d1, d2, d3] }
  | _ => none }
def JugPoursWrongFalsely : Prop := jugPoursRow.holds Try.pinned (OpenSpec.ofChange jugPoursWrong)

/-- 'careenlaw02.JugWays': WHATEVER THE INPUT: true; the input reads as it did. -/
def jugWaysSpec : ChangeSpec := { name := "jugWays", fn := fun _ => fun
  | [d1, d2, d3] => { results := [.lit (.bool true)], args := [d1, d2, d3] }
  | _ => none }
def jugWaysRow : OpenClaim := { program := "ytlamppplnojpbaa", sum := "8ce2ab51e25f0605d5b7a9c6ad2e21049b51ad8bf552520f27c92d807f48697a", func := "careen/careenlaw02.JugWays", spec := "jugWays", unfollowed := true, recurses := true, plainKeys := false, apart := false }
def JugWaysSaid : Prop := jugWaysRow.holds Try.pinned (OpenSpec.ofChange jugWaysSpec)

/-- ITS FALSE NEIGHBOUR: 'it returns false'. Refute it at one input. -/
def jugWaysWrong : ChangeSpec := { name := "jugWays", fn := fun _ => fun
  | [d1, d2, d3] => { results := [.lit (.bool false)], args := [d1, d2, d3] }
  | _ => none }
def JugWaysWrongFalsely : Prop := jugWaysRow.holds Try.pinned (OpenSpec.ofChange jugWaysWrong)

/-- 'careenlaw02.JugReaches': WHATEVER THE INPUT: true; the input reads as it did. -/
def jugReachesSpec : ChangeSpec := { name := "jugReaches", fn := fun _ => fun
  | [d1, d2, d3] => { results := [.lit (.bool true)], args := [d1, d2, d3] }
  | _ => none }
def jugReachesRow : OpenClaim := { program := "ytlamppplnojpbaa", sum := "8ce2ab51e25f0605d5b7a9c6ad2e21049b51ad8bf552520f27c92d807f48697a", func := "careen/careenlaw02.JugReaches", spec := "jugReaches", unfollowed := true, recurses := true, plainKeys := false, apart := false }
def JugReachesSaid : Prop := jugReachesRow.holds Try.pinned (OpenSpec.ofChange jugReachesSpec)

/-- ITS FALSE NEIGHBOUR: 'it returns false'. Refute it at one input. -/
def jugReachesWrong : ChangeSpec := { name := "jugReaches", fn := fun _ => fun
  | [d1, d2, d3] => { results := [.lit (.bool false)], args := [d1, d2, d3] }
  | _ => none }
def JugReachesWrongFalsely : Prop := jugReachesRow.holds Try.pinned (OpenSpec.ofChange jugReachesWrong)

/-- 'careenlaw02.JugMeasures': WHATEVER THE INPUT: true; the input reads as it did. -/
def jugMeasuresSpec : ChangeSpec := { name := "jugMeasures", fn := fun _ => fun
  | [d1, d2] => { results := [.lit (.bool true)], args := [d1, d2] }
  | _ => none }
def jugMeasuresRow : OpenClaim := { program := "ytlamppplnojpbaa", sum := "8ce2ab51e25f0605d5b7a9c6ad2e21049b51ad8bf552520f27c92d807f48697a", func := "careen/careenlaw02.JugMeasures", spec := "jugMeasures", unfollowed := true, recurses := true, plainKeys := false, apart := false }
def JugMeasuresSaid : Prop := jugMeasuresRow.holds Try.pinned (OpenSpec.ofChange jugMeasuresSpec)

/-- ITS FALSE NEIGHBOUR: 'it returns false'. Refute it at one input. -/
def jugMeasuresWrong : ChangeSpec := { name := "jugMeasures", fn := fun _ => fun
  | [d1, d2] => { results := [.lit (.bool false)], args := [d1, d2] }
  | _ => none }
def JugMeasuresWrongFalsely : Prop := jugMeasuresRow.holds Try.pinned (OpenSpec.ofChange jugMeasuresWrong)

/-- 'careenlaw02.JugTwos': WHATEVER THE INPUT: true; the input reads as it did. -/
def jugTwosSpec : ChangeSpec := { name := "jugTwos", fn := fun _ => fun
  | [d1, d2, d3] => { results := [.lit (.bool true)], args := [d1, d2, d3] }
  | _ => none }
def jugTwosRow : OpenClaim := { program := "ytlamppplnojpbaa", sum := "8ce2ab51e25f0605d5b7a9c6ad2e21049b51ad8bf552520f27c92d807f48697a", func := "careen/careenlaw02.JugTwos", spec := "jugTwos", unfollowed := true, recurses := true, plainKeys := false, apart := false }
def JugTwosSaid : Prop := jugTwosRow.holds Try.pinned (OpenSpec.ofChange jugTwosSpec)

/-- ITS FALSE NEIGHBOUR: 'it returns false'. Refute it at one input. -/
def jugTwosWrong : ChangeSpec := { name := "jugTwos", fn := fun _ => fun
  | [d1, d2, d3] => { results := [.lit (.bool false)], args := [d1, d2, d3] }
  | _ => none }
def JugTwosWrongFalsely : Prop := jugTwosRow.holds Try.pinned (OpenSpec.ofChange jugTwosWrong)

/-- 'careenlaw02.JugBacks': WHATEVER THE INPUT: true; the input reads as it did. -/
def jugBacksSpec : ChangeSpec := { name := "jugBacks", fn := fun _ => fun
  | [d1, d2] => { results := [.lit (.bool true)], args := [d1, d2] }
  | _ => none }
def jugBacksRow : OpenClaim := { program := "ytlamppplnojpbaa", sum := "8ce2ab51e25f0605d5b7a9c6ad2e21049b51ad8bf552520f27c92d807f48697a", func := "careen/careenlaw02.JugBacks", spec := "jugBacks", unfollowed := true, recurses := true, plainKeys := false, apart := false }
def JugBacksSaid : Prop := jugBacksRow.holds Try.pinned (OpenSpec.ofChange jugBacksSpec)

/-- ITS FALSE NEIGHBOUR: 'it returns false'. Refute it at one input. -/
def jugBacksWrong : ChangeSpec := { name := "jugBacks", fn := fun _ => fun
  | [d1, d2] => { results := [.lit (.bool false)], args := [d1, d2] }
  | _ => none }
def JugBacksWrongFalsely : Prop := jugBacksRow.holds Try.pinned (OpenSpec.ofChange jugBacksWrong)

/-- 'careenlaw02.JugBezout': WHATEVER THE INPUT: true; the input reads as it did. -/
def jugBezoutSpec : ChangeSpec := { name := "jugBezout", fn := fun _ => fun
  | [d] => { results := [.lit (.bool true)], args := [d] }
  | _ => none }
def jugBezoutRow : OpenClaim := { program := "ytlamppplnojpbaa", sum := "8ce2ab51e25f0605d5b7a9c6ad2e21049b51ad8bf552520f27c92d807f48697a", func := "careen/careenlaw02.JugBezout", spec := "jugBezout", unfollowed := true, recurses := true, plainKeys := false, apart := false }
def JugBezoutSaid : Prop := jugBezoutRow.holds Try.pinned (OpenSpec.ofChange jugBezoutSpec)

/-- ITS FALSE NEIGHBOUR: 'it returns false'. Refute it at one input. -/
def jugBezoutWrong : ChangeSpec := { name := "jugBezout", fn := fun _ => fun
  | [d] => { results := [.lit (.bool false)], args := [d] }
  | _ => none }
def JugBezoutWrongFalsely : Prop := jugBezoutRow.holds Try.pinned (OpenSpec.ofChange jugBezoutWrong)

/-- 'careenlaw02.JugFewest': WHATEVER THE INPUT: true; the input reads as it did. -/
def jugFewestSpec : ChangeSpec := { name := "jugFewest", fn := fun _ => fun
  | [d1, d2, d3] => { results := [.lit (.bool true)], args := [d1, d2, d3] }
  | _ => none }
def jugFewestRow : OpenClaim := { program := "ytlamppplnojpbaa", sum := "8ce2ab51e25f0605d5b7a9c6ad2e21049b51ad8bf552520f27c92d807f48697a", func := "careen/careenlaw02.JugFewest", spec := "jugFewest", unfollowed := true, recurses := true, plainKeys := false, apart := false }
def JugFewestSaid : Prop := jugFewestRow.holds Try.pinned (OpenSpec.ofChange jugFewestSpec)

/-- ITS FALSE NEIGHBOUR: 'it returns false'. Refute it at one input. -/
def jugFewestWrong : ChangeSpec := { name := "jugFewest", fn := fun _ => fun
  | [d1, d2, d3] => { results := [.lit (.bool false)], args := [d1, d2, d3] }
  | _ => none }
def JugFewestWrongFalsely : Prop := jugFewestRow.holds Try.pinned (OpenSpec.ofChange jugFewestWrong)

/-- 'careenlaw02.JugCloses': WHATEVER THE INPUT: true; the input reads as it did. -/
def jugClosesSpec : ChangeSpec := { name := "jugCloses", fn := fun _ => fun
  | [d1, d2] => { results := [.lit (.bool true)], args := [d1, d2] }
  | _ => none }
def jugClosesRow : OpenClaim := { program := "ytlamppplnojpbaa", sum := "8ce2ab51e25f0605d5b7a9c6ad2e21049b51ad8bf552520f27c92d807f48697a", func := "careen/careenlaw02.JugCloses", spec := "jugCloses", unfollowed := true, recurses := true, plainKeys := false, apart := false }
def JugClosesSaid : Prop := jugClosesRow.holds Try.pinned (OpenSpec.ofChange jugClosesSpec)

/-- ITS FALSE NEIGHBOUR: 'it returns false'. Refute it at one input. -/
def jugClosesWrong : ChangeSpec := { name := "jugCloses", fn := fun _ => fun
  | [d1, d2] => { results := [.lit (.bool false)], args := [d1, d2] }
  | _ => none }
def JugClosesWrongFalsely : Prop := jugClosesRow.holds Try.pinned (OpenSpec.ofChange jugClosesWrong)

/-- 'careenlaw02.JugLower': WHATEVER THE INPUT: true; the input reads as it did. -/
def jugLowerSpec : ChangeSpec := { name := "jugLower", fn := fun _ => fun
  | [d1, d2] => { results := [.lit (.bool true)], args := [d1, d2] }
  | _ => none }
def jugLowerRow : OpenClaim := { program := "ytlamppplnojpbaa", sum := "8ce2ab51e25f0605d5b7a9c6ad2e21049b51ad8bf552520f27c92d807f48697a", func := "careen/careenlaw02.JugLower", spec := "jugLower", unfollowed := true, recurses := true, plainKeys := false, apart := false }
def JugLowerSaid : Prop := jugLowerRow.holds Try.pinned (OpenSpec.ofChange jugLowerSpec)

/-- ITS FALSE NEIGHBOUR: 'it returns false'. Refute it at one input. -/
def jugLowerWrong : ChangeSpec := { name := "jugLower", fn := fun _ => fun
  | [d1, d2] => { results := [.lit (.bool false)], args := [d1, d2] }
  | _ => none }
def JugLowerWrongFalsely : Prop := jugLowerRow.holds Try.pinned (OpenSpec.ofChange jugLowerWrong)

/-- 'careenlaw02.JugOwn': WHATEVER THE INPUT: true; the input reads as it did. -/
def jugOwnSpec : ChangeSpec := { name := "jugOwn", fn := fun _ => fun
  | [d1, d2] => { results := [.lit (.bool true)], args := [d1, d2] }
  | _ => none }
def jugOwnRow : OpenClaim := { program := "ytlamppplnojpbaa", sum := "8ce2ab51e25f0605d5b7a9c6ad2e21049b51ad8bf552520f27c92d807f48697a", func := "careen/careenlaw02.JugOwn", spec := "jugOwn", unfollowed := true, recurses := true, plainKeys := false, apart := false }
def JugOwnSaid : Prop := jugOwnRow.holds Try.pinned (OpenSpec.ofChange jugOwnSpec)

/-- ITS FALSE NEIGHBOUR: 'it returns false'. Refute it at one input. -/
def jugOwnWrong : ChangeSpec := { name := "jugOwn", fn := fun _ => fun
  | [d1, d2] => { results := [.lit (.bool false)], args := [d1, d2] }
  | _ => none }
def JugOwnWrongFalsely : Prop := jugOwnRow.holds Try.pinned (OpenSpec.ofChange jugOwnWrong)

/- THE SECOND FORM. 'bulk': how many values and letters a reading holds, each counted each time it is reached (what is shared counts as often as it is met; a slice's spare places count too). A statement '..UptoSaid' is the law's where the arguments, and the package variables that the reading takes, are together of bulk at most 1048576: NARROWER than '..Said'. Prove '..Said' where nothing that the law and all that it calls make is longer than what came in: it says more and counts as full. Else prove '..UptoSaid'. A law counts once. -/
mutual
def uptoBulk {H : Type} : DataW H → Nat
  | .lit (.string bytes) => bytes.length + 1
  | .lit _ => 1
  | .nil => 1
  | .ptr d => uptoBulk d + 1
  | .slice elems spare => uptoBulkAll elems + uptoBulkAll spare + 1
  | .agg parts => uptoBulkAll parts + 1
  | .iface _ d => uptoBulk d + 1
  | .map entries => uptoBulkEntries entries + 1
  | .held _ => 1
def uptoBulkAll {H : Type} : List (DataW H) → Nat
  | [] => 0
  | d :: r => uptoBulk d + uptoBulkAll r
def uptoBulkEntries {H : Type} : List (Lit × DataW H) → Nat
  | [] => 0
  | x :: r => uptoBulkEntry x + uptoBulkEntries r
def uptoBulkEntry {H : Type} : Lit × DataW H → Nat
  | (.string bytes, d) => bytes.length + uptoBulk d + 1
  | (_, d) => uptoBulk d + 1
 end
def uptoSmall : (H : Type) → List (DataW H) → Bool := fun _ ds => decide (uptoBulkAll ds ≤ 1048576)
def OpenSpec.upto (s : _root_.Go.ChangeSpec) : _root_.Go.OpenSpec := { _root_.Go.OpenSpec.ofChange s with cond := some uptoSmall }

/-- 'careenlaw02.JugChecks', WHERE WHAT IT READS IS OF BULK AT MOST 1048576: true; the input reads as it did. -/
def jugChecksUptoRow : OpenClaim := { program := "ytlamppplnojpbaa", sum := "8ce2ab51e25f0605d5b7a9c6ad2e21049b51ad8bf552520f27c92d807f48697a", func := "careen/careenlaw02.JugChecks", spec := "jugChecks", unfollowed := true, recurses := true, plainKeys := false, apart := false, narrowed := true }
def JugChecksUptoSaid : Prop := jugChecksUptoRow.holds Try.pinned (OpenSpec.upto jugChecksSpec)

/-- 'careenlaw02.JugSteps', WHERE WHAT IT READS IS OF BULK AT MOST 1048576: true; the input reads as it did. -/
def jugStepsUptoRow : OpenClaim := { program := "ytlamppplnojpbaa", sum := "8ce2ab51e25f0605d5b7a9c6ad2e21049b51ad8bf552520f27c92d807f48697a", func := "careen/careenlaw02.JugSteps", spec := "jugSteps", unfollowed := true, recurses := true, plainKeys := false, apart := false, narrowed := true }
def JugStepsUptoSaid : Prop := jugStepsUptoRow.holds Try.pinned (OpenSpec.upto jugStepsSpec)

/-- 'careenlaw02.JugPours', WHERE WHAT IT READS IS OF BULK AT MOST 1048576: true; the input reads as it did. -/
def jugPoursUptoRow : OpenClaim := { program := "ytlamppplnojpbaa", sum := "8ce2ab51e25f0605d5b7a9c6ad2e21049b51ad8bf552520f27c92d807f48697a", func := "careen/careenlaw02.JugPours", spec := "jugPours", unfollowed := true, recurses := true, plainKeys := false, apart := false, narrowed := true }
def JugPoursUptoSaid : Prop := jugPoursUptoRow.holds Try.pinned (OpenSpec.upto jugPoursSpec)

/-- 'careenlaw02.JugWays', WHERE WHAT IT READS IS OF BULK AT MOST 1048576: true; the input reads as it did. -/
def jugWaysUptoRow : OpenClaim := { program := "ytlamppplnojpbaa", sum := "8ce2ab51e25f0605d5b7a9c6ad2e21049b51ad8bf552520f27c92d807f48697a", func := "careen/careenlaw02.JugWays", spec := "jugWays", unfollowed := true, recurses := true, plainKeys := false, apart := false, narrowed := true }
def JugWaysUptoSaid : Prop := jugWaysUptoRow.holds Try.pinned (OpenSpec.upto jugWaysSpec)

/-- 'careenlaw02.JugReaches', WHERE WHAT IT READS IS OF BULK AT MOST 1048576: true; the input reads as it did. -/
def jugReachesUptoRow : OpenClaim := { program := "ytlamppplnojpbaa", sum := "8ce2ab51e25f0605d5b7a9c6ad2e21049b51ad8bf552520f27c92d807f48697a", func := "careen/careenlaw02.JugReaches", spec := "jugReaches", unfollowed := true, recurses := true, plainKeys := false, apart := false, narrowed := true }
def JugReachesUptoSaid : Prop := jugReachesUptoRow.holds Try.pinned (OpenSpec.upto jugReachesSpec)

/-- 'careenlaw02.JugMeasures', WHERE WHAT IT READS IS OF BULK AT MOST 1048576: true; the input reads as it did. -/
def jugMeasuresUptoRow : OpenClaim := { program := "ytlamppplnojpbaa", sum := "8ce2ab51e25f0605d5b7a9c6ad2e21049b51ad8bf552520f27c92d807f48697a", func := "careen/careenlaw02.JugMeasures", spec := "jugMeasures", unfollowed := true, recurses := true, plainKeys := false, apart := false, narrowed := true }
def JugMeasuresUptoSaid : Prop := jugMeasuresUptoRow.holds Try.pinned (OpenSpec.upto jugMeasuresSpec)

/-- 'careenlaw02.JugTwos', WHERE WHAT IT READS IS OF BULK AT MOST 1048576: true; the input reads as it did. -/
def jugTwosUptoRow : OpenClaim := { program := "ytlamppplnojpbaa", sum := "8ce2ab51e25f0605d5b7a9c6ad2e21049b51ad8bf552520f27c92d807f48697a", func := "careen/careenlaw02.JugTwos", spec := "jugTwos", unfollowed := true, recurses := true, plainKeys := false, apart := false, narrowed := true }
def JugTwosUptoSaid : Prop := jugTwosUptoRow.holds Try.pinned (OpenSpec.upto jugTwosSpec)

/-- 'careenlaw02.JugBacks', WHERE WHAT IT READS IS OF BULK AT MOST 1048576: true; the input reads as it did. -/
def jugBacksUptoRow : OpenClaim := { program := "ytlamppplnojpbaa", sum := "8ce2ab51e25f0605d5b7a9c6ad2e21049b51ad8bf552520f27c92d807f48697a", func := "careen/careenlaw02.JugBacks", spec := "jugBacks", unfollowed := true, recurses := true, plainKeys := false, apart := false, narrowed := true }
def JugBacksUptoSaid : Prop := jugBacksUptoRow.holds Try.pinned (OpenSpec.upto jugBacksSpec)

/-- 'careenlaw02.JugBezout', WHERE WHAT IT READS IS OF BULK AT MOST 1048576: true; the input reads as it did. -/
def jugBezoutUptoRow : OpenClaim := { program := "ytlamppplnojpbaa", sum := "8ce2ab51e25f0605d5b7a9c6ad2e21049b51ad8bf552520f27c92d807f48697a", func := "careen/careenlaw02.JugBezout", spec := "jugBezout", unfollowed := true, recurses := true, plainKeys := false, apart := false, narrowed := true }
def JugBezoutUptoSaid : Prop := jugBezoutUptoRow.holds Try.pinned (OpenSpec.upto jugBezoutSpec)

/-- 'careenlaw02.JugFewest', WHERE WHAT IT READS IS OF BULK AT MOST 1048576: true; the input reads as it did. -/
def jugFewestUptoRow : OpenClaim := { program := "ytlamppplnojpbaa", sum := "8ce2ab51e25f0605d5b7a9c6ad2e21049b51ad8bf552520f27c92d807f48697a", func := "careen/careenlaw02.JugFewest", spec := "jugFewest", unfollowed := true, recurses := true, plainKeys := false, apart := false, narrowed := true }
def JugFewestUptoSaid : Prop := jugFewestUptoRow.holds Try.pinned (OpenSpec.upto jugFewestSpec)

/-- 'careenlaw02.JugCloses', WHERE WHAT IT READS IS OF BULK AT MOST 1048576: true; the input reads as it did. -/
def jugClosesUptoRow : OpenClaim := { program := "ytlamppplnojpbaa", sum := "8ce2ab51e25f0605d5b7a9c6ad2e21049b51ad8bf552520f27c92d807f48697a", func := "careen/careenlaw02.JugCloses", spec := "jugCloses", unfollowed := true, recurses := true, plainKeys := false, apart := false, narrowed := true }
def JugClosesUptoSaid : Prop := jugClosesUptoRow.holds Try.pinned (OpenSpec.upto jugClosesSpec)

/-- 'careenlaw02.JugLower', WHERE WHAT IT READS IS OF BULK AT MOST 1048576: true; the input reads as it did. -/
def jugLowerUptoRow : OpenClaim := { program := "ytlamppplnojpbaa", sum := "8ce2ab51e25f0605d5b7a9c6ad2e21049b51ad8bf552520f27c92d807f48697a", func := "careen/careenlaw02.JugLower", spec := "jugLower", unfollowed := true, recurses := true, plainKeys := false, apart := false, narrowed := true }
def JugLowerUptoSaid : Prop := jugLowerUptoRow.holds Try.pinned (OpenSpec.upto jugLowerSpec)

/-- 'careenlaw02.JugOwn', WHERE WHAT IT READS IS OF BULK AT MOST 1048576: true; the input reads as it did. -/
def jugOwnUptoRow : OpenClaim := { program := "ytlamppplnojpbaa", sum := "8ce2ab51e25f0605d5b7a9c6ad2e21049b51ad8bf552520f27c92d807f48697a", func := "careen/careenlaw02.JugOwn", spec := "jugOwn", unfollowed := true, recurses := true, plainKeys := false, apart := false, narrowed := true }
def JugOwnUptoSaid : Prop := jugOwnUptoRow.holds Try.pinned (OpenSpec.upto jugOwnSpec)

end Rows
end Go.Proofs.Ytlamppplnojpbaa
