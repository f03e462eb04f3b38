/-
  No cell of these rows narrows 'for every input' (looked for: loops, veiled, ifaces, maps, wideKeys, modest, calm, conditions, laid).
  DERIVED. THE GIVEN ROWS OF THIS SEAT. 14 by the template 'for every input the law returns true; each argument reads behind the call as it read before'; 0 by the template 'total and deterministic' (their statements: YtbhlddfjfcmncaaTotals.lean).
  GIVEN WITH THE SEED: the statements are not yours to turn. If you find one false, say at which input.
  Laid BY PROGRAM, IN A SANDBOX (cutbox-rows.mjs): the forced cells as the released guide's own fill.sh prints them over the translation a6571792b6b87226… (all of the seat's roots in one cut). By AI agents, Wed Nov 11 2026. No macro, syntax, notation, axiom, sorry.
-/
import Derived.Test.YtbhlddfjfcmncaaChecked
import GoSem.Claim
import GoSem.ClaimJoined
import GoSem.ClaimMapViews
import Derived.JoinedTies
import Derived.KernelRfl
namespace Go.Proofs.Ytbhlddfjfcmncaa
/- THE CELL 'sum', in the pinned program and in every row, IS THE sha256 OF THE DUMP (.gsa) THAT YtbhlddfjfcmncaaProg.lean LOADS. Nothing in Lean hashes anything: it is a label: what it is worth is what the hold of that sum in a sandbox is worth. -/
noncomputable def Try.pinned : Pinned := { name := "ytbhlddfjfcmncaa", sum := "a6571792b6b87226e55d0347983891416e843781e69b03faf1e06062b085cc1c", checked := Try.checked }
namespace Rows
def none {H : Type} : Left H := { results := [], args := [] }

/-- 'careenlaw01.TideChecks': WHATEVER THE INPUT: true; the input reads as it did. -/
def tideChecksSpec : ChangeSpec := { name := "tideChecks", fn := fun _ => fun
  | [d] => { results := [.lit (.bool true)], args := [d] }
  | _ => none }
def tideChecksRow : OpenClaim := { program := "ytbhlddfjfcmncaa", sum := "a6571792b6b87226e55d0347983891416e843781e69b03faf1e06062b085cc1c", func := "careen/careenlaw01.TideChecks", spec := "tideChecks", inPlace := ["internal/bytealg.MakeNoZero", "internal/bytealg.IndexByteString", "internal/bytealg.IndexString"], unfollowed := true, recurses := true, named := ["internal/bytealg.MaxLen"], apart := false }
def TideChecksSaid : Prop := tideChecksRow.holds Try.pinned (OpenSpec.ofChange tideChecksSpec)

/-- ITS FALSE NEIGHBOUR: 'it returns false'. Refute it at one input. -/
def tideChecksWrong : ChangeSpec := { name := "tideChecks", fn := fun _ => fun
  | [d] => { results := [.lit (.bool false)], args := [d] }
  | _ => none }
def TideChecksWrongFalsely : Prop := tideChecksRow.holds Try.pinned (OpenSpec.ofChange tideChecksWrong)

/-- 'careenlaw01.TideHas': WHATEVER THE INPUT: true; the input reads as it did. -/
def tideHasSpec : ChangeSpec := { name := "tideHas", fn := fun _ => fun
  | [d1, d2] => { results := [.lit (.bool true)], args := [d1, d2] }
  | _ => none }
def tideHasRow : OpenClaim := { program := "ytbhlddfjfcmncaa", sum := "a6571792b6b87226e55d0347983891416e843781e69b03faf1e06062b085cc1c", func := "careen/careenlaw01.TideHas", spec := "tideHas", inPlace := ["internal/bytealg.MakeNoZero", "internal/bytealg.IndexByteString", "internal/bytealg.IndexString"], unfollowed := true, recurses := true, named := ["internal/bytealg.MaxLen"], apart := false }
def TideHasSaid : Prop := tideHasRow.holds Try.pinned (OpenSpec.ofChange tideHasSpec)

/-- ITS FALSE NEIGHBOUR: 'it returns false'. Refute it at one input. -/
def tideHasWrong : ChangeSpec := { name := "tideHas", fn := fun _ => fun
  | [d1, d2] => { results := [.lit (.bool false)], args := [d1, d2] }
  | _ => none }
def TideHasWrongFalsely : Prop := tideHasRow.holds Try.pinned (OpenSpec.ofChange tideHasWrong)

/-- 'careenlaw01.TideForms': WHATEVER THE INPUT: true; the input reads as it did. -/
def tideFormsSpec : ChangeSpec := { name := "tideForms", fn := fun _ => fun
  | [d] => { results := [.lit (.bool true)], args := [d] }
  | _ => none }
def tideFormsRow : OpenClaim := { program := "ytbhlddfjfcmncaa", sum := "a6571792b6b87226e55d0347983891416e843781e69b03faf1e06062b085cc1c", func := "careen/careenlaw01.TideForms", spec := "tideForms", inPlace := ["internal/bytealg.MakeNoZero", "internal/bytealg.IndexByteString", "internal/bytealg.IndexString"], unfollowed := true, recurses := true, named := ["internal/bytealg.MaxLen"], apart := false }
def TideFormsSaid : Prop := tideFormsRow.holds Try.pinned (OpenSpec.ofChange tideFormsSpec)

/-- ITS FALSE NEIGHBOUR: 'it returns false'. Refute it at one input. -/
def tideFormsWrong : ChangeSpec := { name := "tideForms", fn := fun _ => fun
  | [d] => { results := [.lit (.bool false)], args := [d] }
  | _ => none }
def TideFormsWrongFalsely : Prop := tideFormsRow.holds Try.pinned (OpenSpec.ofChange tideFormsWrong)

/-- 'careenlaw01.TideSame': WHATEVER THE INPUT: true; the input reads as it did. -/
def tideSameSpec : ChangeSpec := { name := "tideSame", fn := fun _ => fun
  | [d1, d2] => { results := [.lit (.bool true)], args := [d1, d2] }
  | _ => none }
def tideSameRow : OpenClaim := { program := "ytbhlddfjfcmncaa", sum := "a6571792b6b87226e55d0347983891416e843781e69b03faf1e06062b085cc1c", func := "careen/careenlaw01.TideSame", spec := "tideSame", inPlace := ["internal/bytealg.MakeNoZero", "internal/bytealg.IndexByteString", "internal/bytealg.IndexString"], unfollowed := true, recurses := true, named := ["internal/bytealg.MaxLen"], apart := false }
def TideSameSaid : Prop := tideSameRow.holds Try.pinned (OpenSpec.ofChange tideSameSpec)

/-- ITS FALSE NEIGHBOUR: 'it returns false'. Refute it at one input. -/
def tideSameWrong : ChangeSpec := { name := "tideSame", fn := fun _ => fun
  | [d1, d2] => { results := [.lit (.bool false)], args := [d1, d2] }
  | _ => none }
def TideSameWrongFalsely : Prop := tideSameRow.holds Try.pinned (OpenSpec.ofChange tideSameWrong)

/-- 'careenlaw01.TideJoins': WHATEVER THE INPUT: true; the input reads as it did. -/
def tideJoinsSpec : ChangeSpec := { name := "tideJoins", fn := fun _ => fun
  | [d1, d2] => { results := [.lit (.bool true)], args := [d1, d2] }
  | _ => none }
def tideJoinsRow : OpenClaim := { program := "ytbhlddfjfcmncaa", sum := "a6571792b6b87226e55d0347983891416e843781e69b03faf1e06062b085cc1c", func := "careen/careenlaw01.TideJoins", spec := "tideJoins", inPlace := ["internal/bytealg.MakeNoZero", "internal/bytealg.IndexByteString", "internal/bytealg.IndexString"], unfollowed := true, recurses := true, named := ["internal/bytealg.MaxLen"], apart := false }
def TideJoinsSaid : Prop := tideJoinsRow.holds Try.pinned (OpenSpec.ofChange tideJoinsSpec)

/-- ITS FALSE NEIGHBOUR: 'it returns false'. Refute it at one input. -/
def tideJoinsWrong : ChangeSpec := { name := "tideJoins", fn := fun _ => fun
  | [d1, d2] => { results := [.lit (.bool false)], args := [d1, d2] }
  | _ => none }
def TideJoinsWrongFalsely : Prop := tideJoinsRow.holds Try.pinned (OpenSpec.ofChange tideJoinsWrong)

/-- 'careenlaw01.TideSums': WHATEVER THE INPUT: true; the input reads as it did. -/
def tideSumsSpec : ChangeSpec := { name := "tideSums", fn := fun _ => fun
  | [d1, d2] => { results := [.lit (.bool true)], args := [d1, d2] }
  | _ => none }
def tideSumsRow : OpenClaim := { program := "ytbhlddfjfcmncaa", sum := "a6571792b6b87226e55d0347983891416e843781e69b03faf1e06062b085cc1c", func := "careen/careenlaw01.TideSums", spec := "tideSums", inPlace := ["internal/bytealg.MakeNoZero", "internal/bytealg.IndexByteString", "internal/bytealg.IndexString"], unfollowed := true, recurses := true, named := ["internal/bytealg.MaxLen"], apart := false }
def TideSumsSaid : Prop := tideSumsRow.holds Try.pinned (OpenSpec.ofChange tideSumsSpec)

/-- ITS FALSE NEIGHBOUR: 'it returns false'. Refute it at one input. -/
def tideSumsWrong : ChangeSpec := { name := "tideSums", fn := fun _ => fun
  | [d1, d2] => { results := [.lit (.bool false)], args := [d1, d2] }
  | _ => none }
def TideSumsWrongFalsely : Prop := tideSumsRow.holds Try.pinned (OpenSpec.ofChange tideSumsWrong)

/-- 'careenlaw01.TideLater': WHATEVER THE INPUT: true; the input reads as it did. -/
def tideLaterSpec : ChangeSpec := { name := "tideLater", fn := fun _ => fun
  | [d1, d2] => { results := [.lit (.bool true)], args := [d1, d2] }
  | _ => none }
def tideLaterRow : OpenClaim := { program := "ytbhlddfjfcmncaa", sum := "a6571792b6b87226e55d0347983891416e843781e69b03faf1e06062b085cc1c", func := "careen/careenlaw01.TideLater", spec := "tideLater", inPlace := ["internal/bytealg.MakeNoZero", "internal/bytealg.IndexByteString", "internal/bytealg.IndexString"], unfollowed := true, recurses := true, named := ["internal/bytealg.MaxLen"], apart := false }
def TideLaterSaid : Prop := tideLaterRow.holds Try.pinned (OpenSpec.ofChange tideLaterSpec)

/-- ITS FALSE NEIGHBOUR: 'it returns false'. Refute it at one input. -/
def tideLaterWrong : ChangeSpec := { name := "tideLater", fn := fun _ => fun
  | [d1, d2] => { results := [.lit (.bool false)], args := [d1, d2] }
  | _ => none }
def TideLaterWrongFalsely : Prop := tideLaterRow.holds Try.pinned (OpenSpec.ofChange tideLaterWrong)

/-- 'careenlaw01.TideNths': WHATEVER THE INPUT: true; the input reads as it did. -/
def tideNthsSpec : ChangeSpec := { name := "tideNths", fn := fun _ => fun
  | [d1, d2] => { results := [.lit (.bool true)], args := [d1, d2] }
  | _ => none }
def tideNthsRow : OpenClaim := { program := "ytbhlddfjfcmncaa", sum := "a6571792b6b87226e55d0347983891416e843781e69b03faf1e06062b085cc1c", func := "careen/careenlaw01.TideNths", spec := "tideNths", inPlace := ["internal/bytealg.MakeNoZero", "internal/bytealg.IndexByteString", "internal/bytealg.IndexString"], unfollowed := true, recurses := true, named := ["internal/bytealg.MaxLen"], apart := false }
def TideNthsSaid : Prop := tideNthsRow.holds Try.pinned (OpenSpec.ofChange tideNthsSpec)

/-- ITS FALSE NEIGHBOUR: 'it returns false'. Refute it at one input. -/
def tideNthsWrong : ChangeSpec := { name := "tideNths", fn := fun _ => fun
  | [d1, d2] => { results := [.lit (.bool false)], args := [d1, d2] }
  | _ => none }
def TideNthsWrongFalsely : Prop := tideNthsRow.holds Try.pinned (OpenSpec.ofChange tideNthsWrong)

/-- 'careenlaw01.TideWindows': WHATEVER THE INPUT: true; the input reads as it did. -/
def tideWindowsSpec : ChangeSpec := { name := "tideWindows", fn := fun _ => fun
  | [d] => { results := [.lit (.bool true)], args := [d] }
  | _ => none }
def tideWindowsRow : OpenClaim := { program := "ytbhlddfjfcmncaa", sum := "a6571792b6b87226e55d0347983891416e843781e69b03faf1e06062b085cc1c", func := "careen/careenlaw01.TideWindows", spec := "tideWindows", inPlace := ["internal/bytealg.IndexByteString", "internal/bytealg.IndexString", "internal/bytealg.MakeNoZero"], unfollowed := true, recurses := true, named := ["internal/bytealg.MaxLen"], apart := false }
def TideWindowsSaid : Prop := tideWindowsRow.holds Try.pinned (OpenSpec.ofChange tideWindowsSpec)

/-- ITS FALSE NEIGHBOUR: 'it returns false'. Refute it at one input. -/
def tideWindowsWrong : ChangeSpec := { name := "tideWindows", fn := fun _ => fun
  | [d] => { results := [.lit (.bool false)], args := [d] }
  | _ => none }
def TideWindowsWrongFalsely : Prop := tideWindowsRow.holds Try.pinned (OpenSpec.ofChange tideWindowsWrong)

/-- 'careenlaw01.TideSlopes': WHATEVER THE INPUT: true; the input reads as it did. -/
def tideSlopesSpec : ChangeSpec := { name := "tideSlopes", fn := fun _ => fun
  | [d1, d2, d3] => { results := [.lit (.bool true)], args := [d1, d2, d3] }
  | _ => none }
def tideSlopesRow : OpenClaim := { program := "ytbhlddfjfcmncaa", sum := "a6571792b6b87226e55d0347983891416e843781e69b03faf1e06062b085cc1c", func := "careen/careenlaw01.TideSlopes", spec := "tideSlopes", inPlace := ["internal/bytealg.MakeNoZero", "internal/bytealg.IndexByteString", "internal/bytealg.IndexString"], unfollowed := true, recurses := true, named := ["internal/bytealg.MaxLen"], apart := false }
def TideSlopesSaid : Prop := tideSlopesRow.holds Try.pinned (OpenSpec.ofChange tideSlopesSpec)

/-- ITS FALSE NEIGHBOUR: 'it returns false'. Refute it at one input. -/
def tideSlopesWrong : ChangeSpec := { name := "tideSlopes", fn := fun _ => fun
  | [d1, d2, d3] => { results := [.lit (.bool false)], args := [d1, d2, d3] }
  | _ => none }
def TideSlopesWrongFalsely : Prop := tideSlopesRow.holds Try.pinned (OpenSpec.ofChange tideSlopesWrong)

/-- 'careenlaw01.TideBoole': WHATEVER THE INPUT: true; the input reads as it did. -/
def tideBooleSpec : ChangeSpec := { name := "tideBoole", fn := fun _ => fun
  | [d1, d2, d3] => { results := [.lit (.bool true)], args := [d1, d2, d3] }
  | _ => none }
def tideBooleRow : OpenClaim := { program := "ytbhlddfjfcmncaa", sum := "a6571792b6b87226e55d0347983891416e843781e69b03faf1e06062b085cc1c", func := "careen/careenlaw01.TideBoole", spec := "tideBoole", inPlace := ["internal/bytealg.MakeNoZero", "internal/bytealg.IndexByteString", "internal/bytealg.IndexString"], unfollowed := true, recurses := true, named := ["internal/bytealg.MaxLen"], apart := false }
def TideBooleSaid : Prop := tideBooleRow.holds Try.pinned (OpenSpec.ofChange tideBooleSpec)

/-- ITS FALSE NEIGHBOUR: 'it returns false'. Refute it at one input. -/
def tideBooleWrong : ChangeSpec := { name := "tideBoole", fn := fun _ => fun
  | [d1, d2, d3] => { results := [.lit (.bool false)], args := [d1, d2, d3] }
  | _ => none }
def TideBooleWrongFalsely : Prop := tideBooleRow.holds Try.pinned (OpenSpec.ofChange tideBooleWrong)

/-- 'careenlaw01.TideAdds': WHATEVER THE INPUT: true; the input reads as it did. -/
def tideAddsSpec : ChangeSpec := { name := "tideAdds", fn := fun _ => fun
  | [d1, d2, d3] => { results := [.lit (.bool true)], args := [d1, d2, d3] }
  | _ => none }
def tideAddsRow : OpenClaim := { program := "ytbhlddfjfcmncaa", sum := "a6571792b6b87226e55d0347983891416e843781e69b03faf1e06062b085cc1c", func := "careen/careenlaw01.TideAdds", spec := "tideAdds", inPlace := ["internal/bytealg.MakeNoZero", "internal/bytealg.IndexByteString", "internal/bytealg.IndexString"], unfollowed := true, recurses := true, named := ["internal/bytealg.MaxLen"], apart := false }
def TideAddsSaid : Prop := tideAddsRow.holds Try.pinned (OpenSpec.ofChange tideAddsSpec)

/-- ITS FALSE NEIGHBOUR: 'it returns false'. Refute it at one input. -/
def tideAddsWrong : ChangeSpec := { name := "tideAdds", fn := fun _ => fun
  | [d1, d2, d3] => { results := [.lit (.bool false)], args := [d1, d2, d3] }
  | _ => none }
def TideAddsWrongFalsely : Prop := tideAddsRow.holds Try.pinned (OpenSpec.ofChange tideAddsWrong)

/-- 'careenlaw01.TideCounts': WHATEVER THE INPUT: true; the input reads as it did. -/
def tideCountsSpec : ChangeSpec := { name := "tideCounts", fn := fun _ => fun
  | [d1, d2, d3] => { results := [.lit (.bool true)], args := [d1, d2, d3] }
  | _ => none }
def tideCountsRow : OpenClaim := { program := "ytbhlddfjfcmncaa", sum := "a6571792b6b87226e55d0347983891416e843781e69b03faf1e06062b085cc1c", func := "careen/careenlaw01.TideCounts", spec := "tideCounts", inPlace := ["internal/bytealg.IndexByteString", "internal/bytealg.IndexString", "internal/bytealg.MakeNoZero"], unfollowed := true, recurses := true, named := ["internal/bytealg.MaxLen"], apart := false }
def TideCountsSaid : Prop := tideCountsRow.holds Try.pinned (OpenSpec.ofChange tideCountsSpec)

/-- ITS FALSE NEIGHBOUR: 'it returns false'. Refute it at one input. -/
def tideCountsWrong : ChangeSpec := { name := "tideCounts", fn := fun _ => fun
  | [d1, d2, d3] => { results := [.lit (.bool false)], args := [d1, d2, d3] }
  | _ => none }
def TideCountsWrongFalsely : Prop := tideCountsRow.holds Try.pinned (OpenSpec.ofChange tideCountsWrong)

/-- 'careenlaw01.TideChristoffel': WHATEVER THE INPUT: true; the input reads as it did. -/
def tideChristoffelSpec : ChangeSpec := { name := "tideChristoffel", fn := fun _ => fun
  | [d1, d2, d3] => { results := [.lit (.bool true)], args := [d1, d2, d3] }
  | _ => none }
def tideChristoffelRow : OpenClaim := { program := "ytbhlddfjfcmncaa", sum := "a6571792b6b87226e55d0347983891416e843781e69b03faf1e06062b085cc1c", func := "careen/careenlaw01.TideChristoffel", spec := "tideChristoffel", inPlace := ["internal/bytealg.IndexByteString", "internal/bytealg.IndexString", "internal/bytealg.MakeNoZero"], unfollowed := true, recurses := true, named := ["internal/bytealg.MaxLen"], apart := false }
def TideChristoffelSaid : Prop := tideChristoffelRow.holds Try.pinned (OpenSpec.ofChange tideChristoffelSpec)

/-- ITS FALSE NEIGHBOUR: 'it returns false'. Refute it at one input. -/
def tideChristoffelWrong : ChangeSpec := { name := "tideChristoffel", fn := fun _ => fun
  | [d1, d2, d3] => { results := [.lit (.bool false)], args := [d1, d2, d3] }
  | _ => none }
def TideChristoffelWrongFalsely : Prop := tideChristoffelRow.holds Try.pinned (OpenSpec.ofChange tideChristoffelWrong)

/- THE SECOND FORM. 'bulk': how many values and letters a reading holds, each counted each time it is reached (what is shared counts as often as it is met; a slice's spare places count too). A statement '..UptoSaid' is the law's where the arguments, and the package variables that the reading takes, are together of bulk at most 1048576: NARROWER than '..Said'. Prove '..Said' where nothing that the law and all that it calls make is longer than what came in: it says more and counts as full. Else prove '..UptoSaid'. A law counts once. -/
mutual
def uptoBulk {H : Type} : DataW H → Nat
  | .lit (.string bytes) => bytes.length + 1
  | .lit _ => 1
  | .nil => 1
  | .ptr d => uptoBulk d + 1
  | .slice elems spare => uptoBulkAll elems + uptoBulkAll spare + 1
  | .agg parts => uptoBulkAll parts + 1
  | .iface _ d => uptoBulk d + 1
  | .map entries => uptoBulkEntries entries + 1
  | .held _ => 1
def uptoBulkAll {H : Type} : List (DataW H) → Nat
  | [] => 0
  | d :: r => uptoBulk d + uptoBulkAll r
def uptoBulkEntries {H : Type} : List (Lit × DataW H) → Nat
  | [] => 0
  | x :: r => uptoBulkEntry x + uptoBulkEntries r
def uptoBulkEntry {H : Type} : Lit × DataW H → Nat
  | (.string bytes, d) => bytes.length + uptoBulk d + 1
  | (_, d) => uptoBulk d + 1
 end
def uptoSmall : (H : Type) → List (DataW H) → Bool := fun _ ds => decide (uptoBulkAll ds ≤ 1048576)
def OpenSpec.upto (s : _root_.Go.ChangeSpec) : _root_.Go.OpenSpec := { _root_.Go.OpenSpec.ofChange s with cond := some uptoSmall }

/-- 'careenlaw01.TideChecks', WHERE WHAT IT READS IS OF BULK AT MOST 1048576: true; the input reads as it did. -/
def tideChecksUptoRow : OpenClaim := { program := "ytbhlddfjfcmncaa", sum := "a6571792b6b87226e55d0347983891416e843781e69b03faf1e06062b085cc1c", func := "careen/careenlaw01.TideChecks", spec := "tideChecks", inPlace := ["internal/bytealg.MakeNoZero", "internal/bytealg.IndexByteString", "internal/bytealg.IndexString"], unfollowed := true, recurses := true, named := ["internal/bytealg.MaxLen"], apart := false, narrowed := true }
def TideChecksUptoSaid : Prop := tideChecksUptoRow.holds Try.pinned (OpenSpec.upto tideChecksSpec)

/-- 'careenlaw01.TideHas', WHERE WHAT IT READS IS OF BULK AT MOST 1048576: true; the input reads as it did. -/
def tideHasUptoRow : OpenClaim := { program := "ytbhlddfjfcmncaa", sum := "a6571792b6b87226e55d0347983891416e843781e69b03faf1e06062b085cc1c", func := "careen/careenlaw01.TideHas", spec := "tideHas", inPlace := ["internal/bytealg.MakeNoZero", "internal/bytealg.IndexByteString", "internal/bytealg.IndexString"], unfollowed := true, recurses := true, named := ["internal/bytealg.MaxLen"], apart := false, narrowed := true }
def TideHasUptoSaid : Prop := tideHasUptoRow.holds Try.pinned (OpenSpec.upto tideHasSpec)

/-- 'careenlaw01.TideForms', WHERE WHAT IT READS IS OF BULK AT MOST 1048576: true; the input reads as it did. -/
def tideFormsUptoRow : OpenClaim := { program := "ytbhlddfjfcmncaa", sum := "a6571792b6b87226e55d0347983891416e843781e69b03faf1e06062b085cc1c", func := "careen/careenlaw01.TideForms", spec := "tideForms", inPlace := ["internal/bytealg.MakeNoZero", "internal/bytealg.IndexByteString", "internal/bytealg.IndexString"], unfollowed := true, recurses := true, named := ["internal/bytealg.MaxLen"], apart := false, narrowed := true }
def TideFormsUptoSaid : Prop := tideFormsUptoRow.holds Try.pinned (OpenSpec.upto tideFormsSpec)

/-- 'careenlaw01.TideSame', WHERE WHAT IT READS IS OF BULK AT MOST 1048576: true; the input reads as it did. -/
def tideSameUptoRow : OpenClaim := { program := "ytbhlddfjfcmncaa", sum := "a6571792b6b87226e55d0347983891416e843781e69b03faf1e06062b085cc1c", func := "careen/careenlaw01.TideSame", spec := "tideSame", inPlace := ["internal/bytealg.MakeNoZero", "internal/bytealg.IndexByteString", "internal/bytealg.IndexString"], unfollowed := true, recurses := true, named := ["internal/bytealg.MaxLen"], apart := false, narrowed := true }
def TideSameUptoSaid : Prop := tideSameUptoRow.holds Try.pinned (OpenSpec.upto tideSameSpec)

/-- 'careenlaw01.TideJoins', WHERE WHAT IT READS IS OF BULK AT MOST 1048576: true; the input reads as it did. -/
def tideJoinsUptoRow : OpenClaim := { program := "ytbhlddfjfcmncaa", sum := "a6571792b6b87226e55d0347983891416e843781e69b03faf1e06062b085cc1c", func := "careen/careenlaw01.TideJoins", spec := "tideJoins", inPlace := ["internal/bytealg.MakeNoZero", "internal/bytealg.IndexByteString", "internal/bytealg.IndexString"], unfollowed := true, recurses := true, named := ["internal/bytealg.MaxLen"], apart := false, narrowed := true }
def TideJoinsUptoSaid : Prop := tideJoinsUptoRow.holds Try.pinned (OpenSpec.upto tideJoinsSpec)

/-- 'careenlaw01.TideSums', WHERE WHAT IT READS IS OF BULK AT MOST 1048576: true; the input reads as it did. -/
def tideSumsUptoRow : OpenClaim := { program := "ytbhlddfjfcmncaa", sum := "a6571792b6b87226e55d0347983891416e843781e69b03faf1e06062b085cc1c", func := "careen/careenlaw01.TideSums", spec := "tideSums", inPlace := ["internal/bytealg.MakeNoZero", "internal/bytealg.IndexByteString", "internal/bytealg.IndexString"], unfollowed := true, recurses := true, named := ["internal/bytealg.MaxLen"], apart := false, narrowed := true }
def TideSumsUptoSaid : Prop := tideSumsUptoRow.holds Try.pinned (OpenSpec.upto tideSumsSpec)

/-- 'careenlaw01.TideLater', WHERE WHAT IT READS IS OF BULK AT MOST 1048576: true; the input reads as it did. -/
def tideLaterUptoRow : OpenClaim := { program := "ytbhlddfjfcmncaa", sum := "a6571792b6b87226e55d0347983891416e843781e69b03faf1e06062b085cc1c", func := "careen/careenlaw01.TideLater", spec := "tideLater", inPlace := ["internal/bytealg.MakeNoZero", "internal/bytealg.IndexByteString", "internal/bytealg.IndexString"], unfollowed := true, recurses := true, named := ["internal/bytealg.MaxLen"], apart := false, narrowed := true }
def TideLaterUptoSaid : Prop := tideLaterUptoRow.holds Try.pinned (OpenSpec.upto tideLaterSpec)

/-- 'careenlaw01.TideNths', WHERE WHAT IT READS IS OF BULK AT MOST 1048576: true; the input reads as it did. -/
def tideNthsUptoRow : OpenClaim := { program := "ytbhlddfjfcmncaa", sum := "a6571792b6b87226e55d0347983891416e843781e69b03faf1e06062b085cc1c", func := "careen/careenlaw01.TideNths", spec := "tideNths", inPlace := ["internal/bytealg.MakeNoZero", "internal/bytealg.IndexByteString", "internal/bytealg.IndexString"], unfollowed := true, recurses := true, named := ["internal/bytealg.MaxLen"], apart := false, narrowed := true }
def TideNthsUptoSaid : Prop := tideNthsUptoRow.holds Try.pinned (OpenSpec.upto tideNthsSpec)

/-- 'careenlaw01.TideWindows', WHERE WHAT IT READS IS OF BULK AT MOST 1048576: true; the input reads as it did. -/
def tideWindowsUptoRow : OpenClaim := { program := "ytbhlddfjfcmncaa", sum := "a6571792b6b87226e55d0347983891416e843781e69b03faf1e06062b085cc1c", func := "careen/careenlaw01.TideWindows", spec := "tideWindows", inPlace := ["internal/bytealg.IndexByteString", "internal/bytealg.IndexString", "internal/bytealg.MakeNoZero"], unfollowed := true, recurses := true, named := ["internal/bytealg.MaxLen"], apart := false, narrowed := true }
def TideWindowsUptoSaid : Prop := tideWindowsUptoRow.holds Try.pinned (OpenSpec.upto tideWindowsSpec)

/-- 'careenlaw01.TideSlopes', WHERE WHAT IT READS IS OF BULK AT MOST 1048576: true; the input reads as it did. -/
def tideSlopesUptoRow : OpenClaim := { program := "ytbhlddfjfcmncaa", sum := "a6571792b6b87226e55d0347983891416e843781e69b03faf1e06062b085cc1c", func := "careen/careenlaw01.TideSlopes", spec := "tideSlopes", inPlace := ["internal/bytealg.MakeNoZero", "internal/bytealg.IndexByteString", "internal/bytealg.IndexString"], unfollowed := true, recurses := true, named := ["internal/bytealg.MaxLen"], apart := false, narrowed := true }
def TideSlopesUptoSaid : Prop := tideSlopesUptoRow.holds Try.pinned (OpenSpec.upto tideSlopesSpec)

/-- 'careenlaw01.TideBoole', WHERE WHAT IT READS IS OF BULK AT MOST 1048576: true; the input reads as it did. -/
def tideBooleUptoRow : OpenClaim := { program := "ytbhlddfjfcmncaa", sum := "a6571792b6b87226e55d0347983891416e843781e69b03faf1e06062b085cc1c", func := "careen/careenlaw01.TideBoole", spec := "tideBoole", inPlace := ["internal/bytealg.MakeNoZero", "internal/bytealg.IndexByteString", "internal/bytealg.IndexString"], unfollowed := true, recurses := true, named := ["internal/bytealg.MaxLen"], apart := false, narrowed := true }
def TideBooleUptoSaid : Prop := tideBooleUptoRow.holds Try.pinned (OpenSpec.upto tideBooleSpec)

/-- 'careenlaw01.TideAdds', WHERE WHAT IT READS IS OF BULK AT MOST 1048576: true; the input reads as it did. -/
def tideAddsUptoRow : OpenClaim := { program := "ytbhlddfjfcmncaa", sum := "a6571792b6b87226e55d0347983891416e843781e69b03faf1e06062b085cc1c", func := "careen/careenlaw01.TideAdds", spec := "tideAdds", inPlace := ["internal/bytealg.MakeNoZero", "internal/bytealg.IndexByteString", "internal/bytealg.IndexString"], unfollowed := true, recurses := true, named := ["internal/bytealg.MaxLen"], apart := false, narrowed := true }
def TideAddsUptoSaid : Prop := tideAddsUptoRow.holds Try.pinned (OpenSpec.upto tideAddsSpec)

/-- 'careenlaw01.TideCounts', WHERE WHAT IT READS IS OF BULK AT MOST 1048576: true; the input reads as it did. -/
def tideCountsUptoRow : OpenClaim := { program := "ytbhlddfjfcmncaa", sum := "a6571792b6b87226e55d0347983891416e843781e69b03faf1e06062b085cc1c", func := "careen/careenlaw01.TideCounts", spec := "tideCounts", inPlace := ["internal/bytealg.IndexByteString", "internal/bytealg.IndexString", "internal/bytealg.MakeNoZero"], unfollowed := true, recurses := true, named := ["internal/bytealg.MaxLen"], apart := false, narrowed := true }
def TideCountsUptoSaid : Prop := tideCountsUptoRow.holds Try.pinned (OpenSpec.upto tideCountsSpec)

/-- 'careenlaw01.TideChristoffel', WHERE WHAT IT READS IS OF BULK AT MOST 1048576: true; the input reads as it did. -/
def tideChristoffelUptoRow : OpenClaim := { program := "ytbhlddfjfcmncaa", sum := "a6571792b6b87226e55d0347983891416e843781e69b03faf1e06062b085cc1c", func := "careen/careenlaw01.TideChristoffel", spec := "tideChristoffel", inPlace := ["internal/bytealg.IndexByteString", "internal/bytealg.IndexString", "internal/bytealg.MakeNoZero"], unfollowed := true, recurses := true, named := ["internal/bytealg.MaxLen"], apart := false, narrowed := true }
def TideChristoffelUptoSaid : Prop := tideChristoffelUptoRow.holds Try.pinned (OpenSpec.upto tideChristoffelSpec)

end Rows
end Go.Proofs.Ytbhlddfjfcmncaa
