/-
  No cell of these rows narrows 'for every input' (looked for: loops, veiled, ifaces, maps, wideKeys, modest, calm, conditions, laid).
  DERIVED. THE GIVEN ROWS OF THIS SEAT. 15 by the template 'for every input the law returns true; each argument reads behind the call as it read before'; 0 by the template 'total and deterministic' (their statements: YtlehddifcjklgaaTotals.lean).
  GIVEN WITH THE SEED: the statements are not yours to turn. If you find one false, say at which input.
  Laid BY PROGRAM, IN A SANDBOX (cutbox-rows.mjs): the forced cells as the released guide's own fill.sh prints them over the translation a9fddaf134e521d1… (all of the seat's roots in one cut). By AI agents, Wed Nov 11 2026. No macro, syntax, notation, axiom, sorry.
-/
import Derived.Test.YtlehddifcjklgaaChecked
import GoSem.Claim
import GoSem.ClaimJoined
import GoSem.ClaimMapViews
import Derived.JoinedTies
import Derived.KernelRfl
namespace Go.Proofs.Ytlehddifcjklgaa
/- THE CELL 'sum', in the pinned program and in every row, IS THE sha256 OF THE DUMP (.gsa) THAT YtlehddifcjklgaaProg.lean LOADS. Nothing in Lean hashes anything: it is a label: what it is worth is what the hold of that sum in a sandbox is worth. -/
noncomputable def Try.pinned : Pinned := { name := "ytlehddifcjklgaa", sum := "a9fddaf134e521d158f1b9963146431aa1cab6d4bcfb72bc9852953daffd969e", checked := Try.checked }
namespace Rows
def none {H : Type} : Left H := { results := [], args := [] }

/-- 'careenlaw03.HullChecks': WHATEVER THE INPUT: true; the input reads as it did. -/
def hullChecksSpec : ChangeSpec := { name := "hullChecks", fn := fun _ => fun
  | [d1, d2] => { results := [.lit (.bool true)], args := [d1, d2] }
  | _ => none }
def hullChecksRow : OpenClaim := { program := "ytlehddifcjklgaa", sum := "a9fddaf134e521d158f1b9963146431aa1cab6d4bcfb72bc9852953daffd969e", func := "careen/careenlaw03.HullChecks", spec := "hullChecks", unfollowed := true, recurses := true, apart := false }
def HullChecksSaid : Prop := hullChecksRow.holds Try.pinned (OpenSpec.ofChange hullChecksSpec)

/-- ITS FALSE NEIGHBOUR: 'it returns false'. Refute it at one input. -/
def hullChecksWrong : ChangeSpec := { name := "hullChecks", fn := fun _ => fun
  | [d1, d2] => { results := [.lit (.bool false)], args := [d1, d2] }
  | _ => none }
def HullChecksWrongFalsely : Prop := hullChecksRow.holds Try.pinned (OpenSpec.ofChange hullChecksWrong)

/-- 'careenlaw03.HullMiddles': WHATEVER THE INPUT: true; the input reads as it did. -/
def hullMiddlesSpec : ChangeSpec := { name := "hullMiddles", fn := fun _ => fun
  | [d1, d2] => { results := [.lit (.bool true)], args := [d1, d2] }
  | _ => none }
def hullMiddlesRow : OpenClaim := { program := "ytlehddifcjklgaa", sum := "a9fddaf134e521d158f1b9963146431aa1cab6d4bcfb72bc9852953daffd969e", func := "careen/careenlaw03.HullMiddles", spec := "hullMiddles", unfollowed := true, recurses := true, apart := false }
def HullMiddlesSaid : Prop := hullMiddlesRow.holds Try.pinned (OpenSpec.ofChange hullMiddlesSpec)

/-- ITS FALSE NEIGHBOUR: 'it returns false'. Refute it at one input. -/
def hullMiddlesWrong : ChangeSpec := { name := "hullMiddles", fn := fun _ => fun
  | [d1, d2] => { results := [.lit (.bool false)], args := [d1, d2] }
  | _ => none }
def HullMiddlesWrongFalsely : Prop := hullMiddlesRow.holds Try.pinned (OpenSpec.ofChange hullMiddlesWrong)

/-- 'careenlaw03.HullRests': WHATEVER THE INPUT: true; the input reads as it did. -/
def hullRestsSpec : ChangeSpec := { name := "hullRests", fn := fun _ => fun
  | [d1, d2] => { results := [.lit (.bool true)], args := [d1, d2] }
  | _ => none }
def hullRestsRow : OpenClaim := { program := "ytlehddifcjklgaa", sum := "a9fddaf134e521d158f1b9963146431aa1cab6d4bcfb72bc9852953daffd969e", func := "careen/careenlaw03.HullRests", spec := "hullRests", unfollowed := true, recurses := true, apart := false }
def HullRestsSaid : Prop := hullRestsRow.holds Try.pinned (OpenSpec.ofChange hullRestsSpec)

/-- ITS FALSE NEIGHBOUR: 'it returns false'. Refute it at one input. -/
def hullRestsWrong : ChangeSpec := { name := "hullRests", fn := fun _ => fun
  | [d1, d2] => { results := [.lit (.bool false)], args := [d1, d2] }
  | _ => none }
def HullRestsWrongFalsely : Prop := hullRestsRow.holds Try.pinned (OpenSpec.ofChange hullRestsWrong)

/-- 'careenlaw03.HullRolls': WHATEVER THE INPUT: true; the input reads as it did. -/
def hullRollsSpec : ChangeSpec := { name := "hullRolls", fn := fun _ => fun
  | [d1, d2, d3] => { results := [.lit (.bool true)], args := [d1, d2, d3] }
  | _ => none }
def hullRollsRow : OpenClaim := { program := "ytlehddifcjklgaa", sum := "a9fddaf134e521d158f1b9963146431aa1cab6d4bcfb72bc9852953daffd969e", func := "careen/careenlaw03.HullRolls", spec := "hullRolls", unfollowed := true, recurses := true, apart := false }
def HullRollsSaid : Prop := hullRollsRow.holds Try.pinned (OpenSpec.ofChange hullRollsSpec)

/-- ITS FALSE NEIGHBOUR: 'it returns false'. Refute it at one input. -/
def hullRollsWrong : ChangeSpec := { name := "hullRolls", fn := fun _ => fun
  | [d1, d2, d3] => { results := [.lit (.bool false)], args := [d1, d2, d3] }
  | _ => none }
def HullRollsWrongFalsely : Prop := hullRollsRow.holds Try.pinned (OpenSpec.ofChange hullRollsWrong)

/-- 'careenlaw03.HullAround': WHATEVER THE INPUT: true; the input reads as it did. -/
def hullAroundSpec : ChangeSpec := { name := "hullAround", fn := fun _ => fun
  | [d] => { results := [.lit (.bool true)], args := [d] }
  | _ => none }
def hullAroundRow : OpenClaim := { program := "ytlehddifcjklgaa", sum := "a9fddaf134e521d158f1b9963146431aa1cab6d4bcfb72bc9852953daffd969e", func := "careen/careenlaw03.HullAround", spec := "hullAround", unfollowed := true, recurses := true, apart := false }
def HullAroundSaid : Prop := hullAroundRow.holds Try.pinned (OpenSpec.ofChange hullAroundSpec)

/-- ITS FALSE NEIGHBOUR: 'it returns false'. Refute it at one input. -/
def hullAroundWrong : ChangeSpec := { name := "hullAround", fn := fun _ => fun
  | [d] => { results := [.lit (.bool false)], args := [d] }
  | _ => none }
def HullAroundWrongFalsely : Prop := hullAroundRow.holds Try.pinned (OpenSpec.ofChange hullAroundWrong)

/-- 'careenlaw03.HullTurns': WHATEVER THE INPUT: true; the input reads as it did. -/
def hullTurnsSpec : ChangeSpec := { name := "hullTurns", fn := fun _ => fun
  | [d1, d2] => { results := [.lit (.bool true)], args := [d1, d2] }
  | _ => none }
def hullTurnsRow : OpenClaim := { program := "ytlehddifcjklgaa", sum := "a9fddaf134e521d158f1b9963146431aa1cab6d4bcfb72bc9852953daffd969e", func := "careen/careenlaw03.HullTurns", spec := "hullTurns", unfollowed := true, recurses := true, apart := false }
def HullTurnsSaid : Prop := hullTurnsRow.holds Try.pinned (OpenSpec.ofChange hullTurnsSpec)

/-- ITS FALSE NEIGHBOUR: 'it returns false'. Refute it at one input. -/
def hullTurnsWrong : ChangeSpec := { name := "hullTurns", fn := fun _ => fun
  | [d1, d2] => { results := [.lit (.bool false)], args := [d1, d2] }
  | _ => none }
def HullTurnsWrongFalsely : Prop := hullTurnsRow.holds Try.pinned (OpenSpec.ofChange hullTurnsWrong)

/-- 'careenlaw03.HullTowers': WHATEVER THE INPUT: true; the input reads as it did. -/
def hullTowersSpec : ChangeSpec := { name := "hullTowers", fn := fun _ => fun
  | [d1, d2] => { results := [.lit (.bool true)], args := [d1, d2] }
  | _ => none }
def hullTowersRow : OpenClaim := { program := "ytlehddifcjklgaa", sum := "a9fddaf134e521d158f1b9963146431aa1cab6d4bcfb72bc9852953daffd969e", func := "careen/careenlaw03.HullTowers", spec := "hullTowers", unfollowed := true, recurses := true, apart := false }
def HullTowersSaid : Prop := hullTowersRow.holds Try.pinned (OpenSpec.ofChange hullTowersSpec)

/-- ITS FALSE NEIGHBOUR: 'it returns false'. Refute it at one input. -/
def hullTowersWrong : ChangeSpec := { name := "hullTowers", fn := fun _ => fun
  | [d1, d2] => { results := [.lit (.bool false)], args := [d1, d2] }
  | _ => none }
def HullTowersWrongFalsely : Prop := hullTowersRow.holds Try.pinned (OpenSpec.ofChange hullTowersWrong)

/-- 'careenlaw03.HullStands': WHATEVER THE INPUT: true; the input reads as it did. -/
def hullStandsSpec : ChangeSpec := { name := "hullStands", fn := fun _ => fun
  | [d1, d2] => { results := [.lit (.bool true)], args := [d1, d2] }
  | _ => none }
def hullStandsRow : OpenClaim := { program := "ytlehddifcjklgaa", sum := "a9fddaf134e521d158f1b9963146431aa1cab6d4bcfb72bc9852953daffd969e", func := "careen/careenlaw03.HullStands", spec := "hullStands", unfollowed := true, recurses := true, apart := false }
def HullStandsSaid : Prop := hullStandsRow.holds Try.pinned (OpenSpec.ofChange hullStandsSpec)

/-- ITS FALSE NEIGHBOUR: 'it returns false'. Refute it at one input. -/
def hullStandsWrong : ChangeSpec := { name := "hullStands", fn := fun _ => fun
  | [d1, d2] => { results := [.lit (.bool false)], args := [d1, d2] }
  | _ => none }
def HullStandsWrongFalsely : Prop := hullStandsRow.holds Try.pinned (OpenSpec.ofChange hullStandsWrong)

/-- 'careenlaw03.HullHarmonic': WHATEVER THE INPUT: true; the input reads as it did. -/
def hullHarmonicSpec : ChangeSpec := { name := "hullHarmonic", fn := fun _ => fun
  | [d] => { results := [.lit (.bool true)], args := [d] }
  | _ => none }
def hullHarmonicRow : OpenClaim := { program := "ytlehddifcjklgaa", sum := "a9fddaf134e521d158f1b9963146431aa1cab6d4bcfb72bc9852953daffd969e", func := "careen/careenlaw03.HullHarmonic", spec := "hullHarmonic", unfollowed := true, recurses := true, apart := false }
def HullHarmonicSaid : Prop := hullHarmonicRow.holds Try.pinned (OpenSpec.ofChange hullHarmonicSpec)

/-- ITS FALSE NEIGHBOUR: 'it returns false'. Refute it at one input. -/
def hullHarmonicWrong : ChangeSpec := { name := "hullHarmonic", fn := fun _ => fun
  | [d] => { results := [.lit (.bool false)], args := [d] }
  | _ => none }
def HullHarmonicWrongFalsely : Prop := hullHarmonicRow.holds Try.pinned (OpenSpec.ofChange hullHarmonicWrong)

/-- 'careenlaw03.HullDomokos': WHATEVER THE INPUT: true; the input reads as it did. -/
def hullDomokosSpec : ChangeSpec := { name := "hullDomokos", fn := fun _ => fun
  | [d1, d2] => { results := [.lit (.bool true)], args := [d1, d2] }
  | _ => none }
def hullDomokosRow : OpenClaim := { program := "ytlehddifcjklgaa", sum := "a9fddaf134e521d158f1b9963146431aa1cab6d4bcfb72bc9852953daffd969e", func := "careen/careenlaw03.HullDomokos", spec := "hullDomokos", unfollowed := true, recurses := true, apart := false }
def HullDomokosSaid : Prop := hullDomokosRow.holds Try.pinned (OpenSpec.ofChange hullDomokosSpec)

/-- ITS FALSE NEIGHBOUR: 'it returns false'. Refute it at one input. -/
def hullDomokosWrong : ChangeSpec := { name := "hullDomokos", fn := fun _ => fun
  | [d1, d2] => { results := [.lit (.bool false)], args := [d1, d2] }
  | _ => none }
def HullDomokosWrongFalsely : Prop := hullDomokosRow.holds Try.pinned (OpenSpec.ofChange hullDomokosWrong)

/-- 'careenlaw03.HullFalls': WHATEVER THE INPUT: true; the input reads as it did. -/
def hullFallsSpec : ChangeSpec := { name := "hullFalls", fn := fun _ => fun
  | [d1, d2, d3] => { results := [.lit (.bool true)], args := [d1, d2, d3] }
  | _ => none }
def hullFallsRow : OpenClaim := { program := "ytlehddifcjklgaa", sum := "a9fddaf134e521d158f1b9963146431aa1cab6d4bcfb72bc9852953daffd969e", func := "careen/careenlaw03.HullFalls", spec := "hullFalls", unfollowed := true, recurses := true, apart := false }
def HullFallsSaid : Prop := hullFallsRow.holds Try.pinned (OpenSpec.ofChange hullFallsSpec)

/-- ITS FALSE NEIGHBOUR: 'it returns false'. Refute it at one input. -/
def hullFallsWrong : ChangeSpec := { name := "hullFalls", fn := fun _ => fun
  | [d1, d2, d3] => { results := [.lit (.bool false)], args := [d1, d2, d3] }
  | _ => none }
def HullFallsWrongFalsely : Prop := hullFallsRow.holds Try.pinned (OpenSpec.ofChange hullFallsWrong)

/-- 'careenlaw03.HullFour': WHATEVER THE INPUT: true; the input reads as it did. -/
def hullFourSpec : ChangeSpec := { name := "hullFour", fn := fun _ => fun
  | [d1, d2] => { results := [.lit (.bool true)], args := [d1, d2] }
  | _ => none }
def hullFourRow : OpenClaim := { program := "ytlehddifcjklgaa", sum := "a9fddaf134e521d158f1b9963146431aa1cab6d4bcfb72bc9852953daffd969e", func := "careen/careenlaw03.HullFour", spec := "hullFour", unfollowed := true, recurses := true, apart := false }
def HullFourSaid : Prop := hullFourRow.holds Try.pinned (OpenSpec.ofChange hullFourSpec)

/-- ITS FALSE NEIGHBOUR: 'it returns false'. Refute it at one input. -/
def hullFourWrong : ChangeSpec := { name := "hullFour", fn := fun _ => fun
  | [d1, d2] => { results := [.lit (.bool false)], args := [d1, d2] }
  | _ => none }
def HullFourWrongFalsely : Prop := hullFourRow.holds Try.pinned (OpenSpec.ofChange hullFourWrong)

/-- 'careenlaw03.HullWithin': WHATEVER THE INPUT: true; the input reads as it did. -/
def hullWithinSpec : ChangeSpec := { name := "hullWithin", fn := fun _ => fun
  | [d] => { results := [.lit (.bool true)], args := [d] }
  | _ => none }
def hullWithinRow : OpenClaim := { program := "ytlehddifcjklgaa", sum := "a9fddaf134e521d158f1b9963146431aa1cab6d4bcfb72bc9852953daffd969e", func := "careen/careenlaw03.HullWithin", spec := "hullWithin", unfollowed := true, recurses := true, apart := false }
def HullWithinSaid : Prop := hullWithinRow.holds Try.pinned (OpenSpec.ofChange hullWithinSpec)

/-- ITS FALSE NEIGHBOUR: 'it returns false'. Refute it at one input. -/
def hullWithinWrong : ChangeSpec := { name := "hullWithin", fn := fun _ => fun
  | [d] => { results := [.lit (.bool false)], args := [d] }
  | _ => none }
def HullWithinWrongFalsely : Prop := hullWithinRow.holds Try.pinned (OpenSpec.ofChange hullWithinWrong)

/-- 'careenlaw03.HullHangs': WHATEVER THE INPUT: true; the input reads as it did. -/
def hullHangsSpec : ChangeSpec := { name := "hullHangs", fn := fun _ => fun
  | [d1, d2] => { results := [.lit (.bool true)], args := [d1, d2] }
  | _ => none }
def hullHangsRow : OpenClaim := { program := "ytlehddifcjklgaa", sum := "a9fddaf134e521d158f1b9963146431aa1cab6d4bcfb72bc9852953daffd969e", func := "careen/careenlaw03.HullHangs", spec := "hullHangs", unfollowed := true, recurses := true, apart := false }
def HullHangsSaid : Prop := hullHangsRow.holds Try.pinned (OpenSpec.ofChange hullHangsSpec)

/-- ITS FALSE NEIGHBOUR: 'it returns false'. Refute it at one input. -/
def hullHangsWrong : ChangeSpec := { name := "hullHangs", fn := fun _ => fun
  | [d1, d2] => { results := [.lit (.bool false)], args := [d1, d2] }
  | _ => none }
def HullHangsWrongFalsely : Prop := hullHangsRow.holds Try.pinned (OpenSpec.ofChange hullHangsWrong)

/-- 'careenlaw03.HullOwn': WHATEVER THE INPUT: true; the input reads as it did. -/
def hullOwnSpec : ChangeSpec := { name := "hullOwn", fn := fun _ => fun
  | [d1, d2] => { results := [.lit (.bool true)], args := [d1, d2] }
  | _ => none }
def hullOwnRow : OpenClaim := { program := "ytlehddifcjklgaa", sum := "a9fddaf134e521d158f1b9963146431aa1cab6d4bcfb72bc9852953daffd969e", func := "careen/careenlaw03.HullOwn", spec := "hullOwn", unfollowed := true, recurses := true, apart := false }
def HullOwnSaid : Prop := hullOwnRow.holds Try.pinned (OpenSpec.ofChange hullOwnSpec)

/-- ITS FALSE NEIGHBOUR: 'it returns false'. Refute it at one input. -/
def hullOwnWrong : ChangeSpec := { name := "hullOwn", fn := fun _ => fun
  | [d1, d2] => { results := [.lit (.bool false)], args := [d1, d2] }
  | _ => none }
def HullOwnWrongFalsely : Prop := hullOwnRow.holds Try.pinned (OpenSpec.ofChange hullOwnWrong)

/- THE SECOND FORM. 'bulk': how many values and letters a reading holds, each counted each time it is reached (what is shared counts as often as it is met; a slice's spare places count too). A statement '..UptoSaid' is the law's where the arguments, and the package variables that the reading takes, are together of bulk at most 1048576: NARROWER than '..Said'. Prove '..Said' where nothing that the law and all that it calls make is longer than what came in: it says more and counts as full. Else prove '..UptoSaid'. A law counts once. -/
mutual
def uptoBulk {H : Type} : DataW H → Nat
  | .lit (.string bytes) => bytes.length + 1
  | .lit _ => 1
  | .nil => 1
  | .ptr d => uptoBulk d + 1
  | .slice elems spare => uptoBulkAll elems + uptoBulkAll spare + 1
  | .agg parts => uptoBulkAll parts + 1
  | .iface _ d => uptoBulk d + 1
  | .map entries => uptoBulkEntries entries + 1
  | .held _ => 1
def uptoBulkAll {H : Type} : List (DataW H) → Nat
  | [] => 0
  | d :: r => uptoBulk d + uptoBulkAll r
def uptoBulkEntries {H : Type} : List (Lit × DataW H) → Nat
  | [] => 0
  | x :: r => uptoBulkEntry x + uptoBulkEntries r
def uptoBulkEntry {H : Type} : Lit × DataW H → Nat
  | (.string bytes, d) => bytes.length + uptoBulk d + 1
  | (_, d) => uptoBulk d + 1
 end
def uptoSmall : (H : Type) → List (DataW H) → Bool := fun _ ds => decide (uptoBulkAll ds ≤ 1048576)
def OpenSpec.upto (s : _root_.Go.ChangeSpec) : _root_.Go.OpenSpec := { _root_.Go.OpenSpec.ofChange s with cond := some uptoSmall }

/-- 'careenlaw03.HullChecks', WHERE WHAT IT READS IS OF BULK AT MOST 1048576: true; the input reads as it did. -/
def hullChecksUptoRow : OpenClaim := { program := "ytlehddifcjklgaa", sum := "a9fddaf134e521d158f1b9963146431aa1cab6d4bcfb72bc9852953daffd969e", func := "careen/careenlaw03.HullChecks", spec := "hullChecks", unfollowed := true, recurses := true, apart := false, narrowed := true }
def HullChecksUptoSaid : Prop := hullChecksUptoRow.holds Try.pinned (OpenSpec.upto hullChecksSpec)

/-- 'careenlaw03.HullMiddles', WHERE WHAT IT READS IS OF BULK AT MOST 1048576: true; the input reads as it did. -/
def hullMiddlesUptoRow : OpenClaim := { program := "ytlehddifcjklgaa", sum := "a9fddaf134e521d158f1b9963146431aa1cab6d4bcfb72bc9852953daffd969e", func := "careen/careenlaw03.HullMiddles", spec := "hullMiddles", unfollowed := true, recurses := true, apart := false, narrowed := true }
def HullMiddlesUptoSaid : Prop := hullMiddlesUptoRow.holds Try.pinned (OpenSpec.upto hullMiddlesSpec)

/-- 'careenlaw03.HullRests', WHERE WHAT IT READS IS OF BULK AT MOST 1048576: true; the input reads as it did. -/
def hullRestsUptoRow : OpenClaim := { program := "ytlehddifcjklgaa", sum := "a9fddaf134e521d158f1b9963146431aa1cab6d4bcfb72bc9852953daffd969e", func := "careen/careenlaw03.HullRests", spec := "hullRests", unfollowed := true, recurses := true, apart := false, narrowed := true }
def HullRestsUptoSaid : Prop := hullRestsUptoRow.holds Try.pinned (OpenSpec.upto hullRestsSpec)

/-- 'careenlaw03.HullRolls', WHERE WHAT IT READS IS OF BULK AT MOST 1048576: true; the input reads as it did. -/
def hullRollsUptoRow : OpenClaim := { program := "ytlehddifcjklgaa", sum := "a9fddaf134e521d158f1b9963146431aa1cab6d4bcfb72bc9852953daffd969e", func := "careen/careenlaw03.HullRolls", spec := "hullRolls", unfollowed := true, recurses := true, apart := false, narrowed := true }
def HullRollsUptoSaid : Prop := hullRollsUptoRow.holds Try.pinned (OpenSpec.upto hullRollsSpec)

/-- 'careenlaw03.HullAround', WHERE WHAT IT READS IS OF BULK AT MOST 1048576: true; the input reads as it did. -/
def hullAroundUptoRow : OpenClaim := { program := "ytlehddifcjklgaa", sum := "a9fddaf134e521d158f1b9963146431aa1cab6d4bcfb72bc9852953daffd969e", func := "careen/careenlaw03.HullAround", spec := "hullAround", unfollowed := true, recurses := true, apart := false, narrowed := true }
def HullAroundUptoSaid : Prop := hullAroundUptoRow.holds Try.pinned (OpenSpec.upto hullAroundSpec)

/-- 'careenlaw03.HullTurns', WHERE WHAT IT READS IS OF BULK AT MOST 1048576: true; the input reads as it did. -/
def hullTurnsUptoRow : OpenClaim := { program := "ytlehddifcjklgaa", sum := "a9fddaf134e521d158f1b9963146431aa1cab6d4bcfb72bc9852953daffd969e", func := "careen/careenlaw03.HullTurns", spec := "hullTurns", unfollowed := true, recurses := true, apart := false, narrowed := true }
def HullTurnsUptoSaid : Prop := hullTurnsUptoRow.holds Try.pinned (OpenSpec.upto hullTurnsSpec)

/-- 'careenlaw03.HullTowers', WHERE WHAT IT READS IS OF BULK AT MOST 1048576: true; the input reads as it did. -/
def hullTowersUptoRow : OpenClaim := { program := "ytlehddifcjklgaa", sum := "a9fddaf134e521d158f1b9963146431aa1cab6d4bcfb72bc9852953daffd969e", func := "careen/careenlaw03.HullTowers", spec := "hullTowers", unfollowed := true, recurses := true, apart := false, narrowed := true }
def HullTowersUptoSaid : Prop := hullTowersUptoRow.holds Try.pinned (OpenSpec.upto hullTowersSpec)

/-- 'careenlaw03.HullStands', WHERE WHAT IT READS IS OF BULK AT MOST 1048576: true; the input reads as it did. -/
def hullStandsUptoRow : OpenClaim := { program := "ytlehddifcjklgaa", sum := "a9fddaf134e521d158f1b9963146431aa1cab6d4bcfb72bc9852953daffd969e", func := "careen/careenlaw03.HullStands", spec := "hullStands", unfollowed := true, recurses := true, apart := false, narrowed := true }
def HullStandsUptoSaid : Prop := hullStandsUptoRow.holds Try.pinned (OpenSpec.upto hullStandsSpec)

/-- 'careenlaw03.HullHarmonic', WHERE WHAT IT READS IS OF BULK AT MOST 1048576: true; the input reads as it did. -/
def hullHarmonicUptoRow : OpenClaim := { program := "ytlehddifcjklgaa", sum := "a9fddaf134e521d158f1b9963146431aa1cab6d4bcfb72bc9852953daffd969e", func := "careen/careenlaw03.HullHarmonic", spec := "hullHarmonic", unfollowed := true, recurses := true, apart := false, narrowed := true }
def HullHarmonicUptoSaid : Prop := hullHarmonicUptoRow.holds Try.pinned (OpenSpec.upto hullHarmonicSpec)

/-- 'careenlaw03.HullDomokos', WHERE WHAT IT READS IS OF BULK AT MOST 1048576: true; the input reads as it did. -/
def hullDomokosUptoRow : OpenClaim := { program := "ytlehddifcjklgaa", sum := "a9fddaf134e521d158f1b9963146431aa1cab6d4bcfb72bc9852953daffd969e", func := "careen/careenlaw03.HullDomokos", spec := "hullDomokos", unfollowed := true, recurses := true, apart := false, narrowed := true }
def HullDomokosUptoSaid : Prop := hullDomokosUptoRow.holds Try.pinned (OpenSpec.upto hullDomokosSpec)

/-- 'careenlaw03.HullFalls', WHERE WHAT IT READS IS OF BULK AT MOST 1048576: true; the input reads as it did. -/
def hullFallsUptoRow : OpenClaim := { program := "ytlehddifcjklgaa", sum := "a9fddaf134e521d158f1b9963146431aa1cab6d4bcfb72bc9852953daffd969e", func := "careen/careenlaw03.HullFalls", spec := "hullFalls", unfollowed := true, recurses := true, apart := false, narrowed := true }
def HullFallsUptoSaid : Prop := hullFallsUptoRow.holds Try.pinned (OpenSpec.upto hullFallsSpec)

/-- 'careenlaw03.HullFour', WHERE WHAT IT READS IS OF BULK AT MOST 1048576: true; the input reads as it did. -/
def hullFourUptoRow : OpenClaim := { program := "ytlehddifcjklgaa", sum := "a9fddaf134e521d158f1b9963146431aa1cab6d4bcfb72bc9852953daffd969e", func := "careen/careenlaw03.HullFour", spec := "hullFour", unfollowed := true, recurses := true, apart := false, narrowed := true }
def HullFourUptoSaid : Prop := hullFourUptoRow.holds Try.pinned (OpenSpec.upto hullFourSpec)

/-- 'careenlaw03.HullWithin', WHERE WHAT IT READS IS OF BULK AT MOST 1048576: true; the input reads as it did. -/
def hullWithinUptoRow : OpenClaim := { program := "ytlehddifcjklgaa", sum := "a9fddaf134e521d158f1b9963146431aa1cab6d4bcfb72bc9852953daffd969e", func := "careen/careenlaw03.HullWithin", spec := "hullWithin", unfollowed := true, recurses := true, apart := false, narrowed := true }
def HullWithinUptoSaid : Prop := hullWithinUptoRow.holds Try.pinned (OpenSpec.upto hullWithinSpec)

/-- 'careenlaw03.HullHangs', WHERE WHAT IT READS IS OF BULK AT MOST 1048576: true; the input reads as it did. -/
def hullHangsUptoRow : OpenClaim := { program := "ytlehddifcjklgaa", sum := "a9fddaf134e521d158f1b9963146431aa1cab6d4bcfb72bc9852953daffd969e", func := "careen/careenlaw03.HullHangs", spec := "hullHangs", unfollowed := true, recurses := true, apart := false, narrowed := true }
def HullHangsUptoSaid : Prop := hullHangsUptoRow.holds Try.pinned (OpenSpec.upto hullHangsSpec)

/-- 'careenlaw03.HullOwn', WHERE WHAT IT READS IS OF BULK AT MOST 1048576: true; the input reads as it did. -/
def hullOwnUptoRow : OpenClaim := { program := "ytlehddifcjklgaa", sum := "a9fddaf134e521d158f1b9963146431aa1cab6d4bcfb72bc9852953daffd969e", func := "careen/careenlaw03.HullOwn", spec := "hullOwn", unfollowed := true, recurses := true, apart := false, narrowed := true }
def HullOwnUptoSaid : Prop := hullOwnUptoRow.holds Try.pinned (OpenSpec.upto hullOwnSpec)

end Rows
end Go.Proofs.Ytlehddifcjklgaa
