/-
  No cell of these rows narrows 'for every input' (looked for: loops, veiled, ifaces, maps, wideKeys, modest, calm, conditions, laid).
  DERIVED. THE GIVEN ROWS OF THIS SEAT. 6 by the template 'for every input the law returns true; each argument reads behind the call as it read before'; 0 by the template 'total and deterministic' (their statements: YtoaghihhobggoaaTotals.lean).
  GIVEN WITH THE SEED: the statements are not yours to turn. If you find one false, say at which input.
  Laid BY PROGRAM, IN A SANDBOX (cutbox-rows.mjs): the forced cells as the released guide's own fill.sh prints them over the translation a06bf321ee230ad3… (all of the seat's roots in one cut). By AI agents, Wed Nov 11 2026. No macro, syntax, notation, axiom, sorry.
-/
import Derived.Test.YtoaghihhobggoaaChecked
import GoSem.Claim
import GoSem.ClaimJoined
import GoSem.ClaimMapViews
import Derived.JoinedTies
import Derived.KernelRfl
namespace Go.Proofs.Ytoaghihhobggoaa
/- THE CELL 'sum', in the pinned program and in every row, IS THE sha256 OF THE DUMP (.gsa) THAT YtoaghihhobggoaaProg.lean LOADS. Nothing in Lean hashes anything: it is a label: what it is worth is what the hold of that sum in a sandbox is worth. -/
noncomputable def Try.pinned : Pinned := { name := "ytoaghihhobggoaa", sum := "a06bf321ee230ad3048b0c9f519bf51d7dcc96ca2fa4fe29edbe12b417e7188c", checked := Try.checked }
namespace Rows
def none {H : Type} : Left H := { results := [], args := [] }

/-- 'pylonlaw01.WholeMatches': WHATEVER THE INPUT: true; the input reads as it did. -/
def wholeMatchesSpec : ChangeSpec := { name := "wholeMatches", fn := fun _ => fun
  | [d1, d2, d3] => { results := [.lit (.bool true)], args := [d1, d2, d3] }
  | _ => none }
def wholeMatchesRow : OpenClaim := { program := "ytoaghihhobggoaa", sum := "a06bf321ee230ad3048b0c9f519bf51d7dcc96ca2fa4fe29edbe12b417e7188c", func := "pylon/pylonlaw01.WholeMatches", spec := "wholeMatches", unfollowed := true, recurses := true, apart := false }
def WholeMatchesSaid : Prop := wholeMatchesRow.holds Try.pinned (OpenSpec.ofChange wholeMatchesSpec)

/-- ITS FALSE NEIGHBOUR: 'it returns false'. Refute it at one input. -/
def wholeMatchesWrong : ChangeSpec := { name := "wholeMatches", fn := fun _ => fun
  | [d1, d2, d3] => { results := [.lit (.bool false)], args := [d1, d2, d3] }
  | _ => none }
def WholeMatchesWrongFalsely : Prop := wholeMatchesRow.holds Try.pinned (OpenSpec.ofChange wholeMatchesWrong)

/-- 'pylonlaw01.WholeDivMatches': WHATEVER THE INPUT: true; the input reads as it did. -/
def wholeDivMatchesSpec : ChangeSpec := { name := "wholeDivMatches", fn := fun _ => fun
  | [d1, d2] => { results := [.lit (.bool true)], args := [d1, d2] }
  | _ => none }
def wholeDivMatchesRow : OpenClaim := { program := "ytoaghihhobggoaa", sum := "a06bf321ee230ad3048b0c9f519bf51d7dcc96ca2fa4fe29edbe12b417e7188c", func := "pylon/pylonlaw01.WholeDivMatches", spec := "wholeDivMatches", unfollowed := true, recurses := true, apart := false }
def WholeDivMatchesSaid : Prop := wholeDivMatchesRow.holds Try.pinned (OpenSpec.ofChange wholeDivMatchesSpec)

/-- ITS FALSE NEIGHBOUR: 'it returns false'. Refute it at one input. -/
def wholeDivMatchesWrong : ChangeSpec := { name := "wholeDivMatches", fn := fun _ => fun
  | [d1, d2] => { results := [.lit (.bool false)], args := [d1, d2] }
  | _ => none }
def WholeDivMatchesWrongFalsely : Prop := wholeDivMatchesRow.holds Try.pinned (OpenSpec.ofChange wholeDivMatchesWrong)

/-- 'pylonlaw01.WholeParseMatches': WHATEVER THE INPUT: true; the input reads as it did. -/
def wholeParseMatchesSpec : ChangeSpec := { name := "wholeParseMatches", fn := fun _ => fun
  | [d1, d2] => { results := [.lit (.bool true)], args := [d1, d2] }
  | _ => none }
def wholeParseMatchesRow : OpenClaim := { program := "ytoaghihhobggoaa", sum := "a06bf321ee230ad3048b0c9f519bf51d7dcc96ca2fa4fe29edbe12b417e7188c", func := "pylon/pylonlaw01.WholeParseMatches", spec := "wholeParseMatches", unfollowed := true, recurses := true, apart := false }
def WholeParseMatchesSaid : Prop := wholeParseMatchesRow.holds Try.pinned (OpenSpec.ofChange wholeParseMatchesSpec)

/-- ITS FALSE NEIGHBOUR: 'it returns false'. Refute it at one input. -/
def wholeParseMatchesWrong : ChangeSpec := { name := "wholeParseMatches", fn := fun _ => fun
  | [d1, d2] => { results := [.lit (.bool false)], args := [d1, d2] }
  | _ => none }
def WholeParseMatchesWrongFalsely : Prop := wholeParseMatchesRow.holds Try.pinned (OpenSpec.ofChange wholeParseMatchesWrong)

/-- 'pylonlaw01.WholeRing': WHATEVER THE INPUT: true; the input reads as it did. -/
def wholeRingSpec : ChangeSpec := { name := "wholeRing", fn := fun _ => fun
  | [d1, d2, d3] => { results := [.lit (.bool true)], args := [d1, d2, d3] }
  | _ => none }
def wholeRingRow : OpenClaim := { program := "ytoaghihhobggoaa", sum := "a06bf321ee230ad3048b0c9f519bf51d7dcc96ca2fa4fe29edbe12b417e7188c", func := "pylon/pylonlaw01.WholeRing", spec := "wholeRing", unfollowed := true, recurses := true, apart := false }
def WholeRingSaid : Prop := wholeRingRow.holds Try.pinned (OpenSpec.ofChange wholeRingSpec)

/-- ITS FALSE NEIGHBOUR: 'it returns false'. Refute it at one input. -/
def wholeRingWrong : ChangeSpec := { name := "wholeRing", fn := fun _ => fun
  | [d1, d2, d3] => { results := [.lit (.bool false)], args := [d1, d2, d3] }
  | _ => none }
def WholeRingWrongFalsely : Prop := wholeRingRow.holds Try.pinned (OpenSpec.ofChange wholeRingWrong)

/-- 'pylonlaw01.WholeEuclid': WHATEVER THE INPUT: true; the input reads as it did. -/
def wholeEuclidSpec : ChangeSpec := { name := "wholeEuclid", fn := fun _ => fun
  | [d1, d2, d3] => { results := [.lit (.bool true)], args := [d1, d2, d3] }
  | _ => none }
def wholeEuclidRow : OpenClaim := { program := "ytoaghihhobggoaa", sum := "a06bf321ee230ad3048b0c9f519bf51d7dcc96ca2fa4fe29edbe12b417e7188c", func := "pylon/pylonlaw01.WholeEuclid", spec := "wholeEuclid", unfollowed := true, recurses := true, apart := false }
def WholeEuclidSaid : Prop := wholeEuclidRow.holds Try.pinned (OpenSpec.ofChange wholeEuclidSpec)

/-- ITS FALSE NEIGHBOUR: 'it returns false'. Refute it at one input. -/
def wholeEuclidWrong : ChangeSpec := { name := "wholeEuclid", fn := fun _ => fun
  | [d1, d2, d3] => { results := [.lit (.bool false)], args := [d1, d2, d3] }
  | _ => none }
def WholeEuclidWrongFalsely : Prop := wholeEuclidRow.holds Try.pinned (OpenSpec.ofChange wholeEuclidWrong)

/-- 'pylonlaw01.WholeExamples': WHATEVER THE INPUT: true; the input reads as it did. -/
def wholeExamplesSpec : ChangeSpec := { name := "wholeExamples", fn := fun _ => fun
  | [] => { results := [.lit (.bool true)], args := [] }
  | _ => none }
def wholeExamplesRow : OpenClaim := { program := "ytoaghihhobggoaa", sum := "a06bf321ee230ad3048b0c9f519bf51d7dcc96ca2fa4fe29edbe12b417e7188c", func := "pylon/pylonlaw01.WholeExamples", spec := "wholeExamples", unfollowed := true, recurses := true, apart := false }
def WholeExamplesSaid : Prop := wholeExamplesRow.holds Try.pinned (OpenSpec.ofChange wholeExamplesSpec)

/-- ITS FALSE NEIGHBOUR: 'it returns false'. Refute it at one input. -/
def wholeExamplesWrong : ChangeSpec := { name := "wholeExamples", fn := fun _ => fun
  | [] => { results := [.lit (.bool false)], args := [] }
  | _ => none }
def WholeExamplesWrongFalsely : Prop := wholeExamplesRow.holds Try.pinned (OpenSpec.ofChange wholeExamplesWrong)

/- THE SECOND FORM. 'bulk': how many values and letters a reading holds, each counted each time it is reached (what is shared counts as often as it is met; a slice's spare places count too). A statement '..UptoSaid' is the law's where the arguments, and the package variables that the reading takes, are together of bulk at most 1048576: NARROWER than '..Said'. Prove '..Said' where nothing that the law and all that it calls make is longer than what came in: it says more and counts as full. Else prove '..UptoSaid'. A law counts once. -/
mutual
def uptoBulk {H : Type} : DataW H → Nat
  | .lit (.string bytes) => bytes.length + 1
  | .lit _ => 1
  | .nil => 1
  | .ptr d => uptoBulk d + 1
  | .slice elems spare => uptoBulkAll elems + uptoBulkAll spare + 1
  | .agg parts => uptoBulkAll parts + 1
  | .iface _ d => uptoBulk d + 1
  | .map entries => uptoBulkEntries entries + 1
  | .held _ => 1
def uptoBulkAll {H : Type} : List (DataW H) → Nat
  | [] => 0
  | d :: r => uptoBulk d + uptoBulkAll r
def uptoBulkEntries {H : Type} : List (Lit × DataW H) → Nat
  | [] => 0
  | x :: r => uptoBulkEntry x + uptoBulkEntries r
def uptoBulkEntry {H : Type} : Lit × DataW H → Nat
  | (.string bytes, d) => bytes.length + uptoBulk d + 1
  | (_, d) => uptoBulk d + 1
 end
def uptoSmall : (H : Type) → List (DataW H) → Bool := fun _ ds => decide (uptoBulkAll ds ≤ 1048576)
def OpenSpec.upto (s : _root_.Go.ChangeSpec) : _root_.Go.OpenSpec := { _root_.Go.OpenSpec.ofChange s with cond := some uptoSmall }

/-- 'pylonlaw01.WholeMatches', WHERE WHAT IT READS IS OF BULK AT MOST 1048576: true; the input reads as it did. -/
def wholeMatchesUptoRow : OpenClaim := { program := "ytoaghihhobggoaa", sum := "a06bf321ee230ad3048b0c9f519bf51d7dcc96ca2fa4fe29edbe12b417e7188c", func := "pylon/pylonlaw01.WholeMatches", spec := "wholeMatches", unfollowed := true, recurses := true, apart := false, narrowed := true }
def WholeMatchesUptoSaid : Prop := wholeMatchesUptoRow.holds Try.pinned (OpenSpec.upto wholeMatchesSpec)

/-- 'pylonlaw01.WholeDivMatches', WHERE WHAT IT READS IS OF BULK AT MOST 1048576: true; the input reads as it did. -/
def wholeDivMatchesUptoRow : OpenClaim := { program := "ytoaghihhobggoaa", sum := "a06bf321ee230ad3048b0c9f519bf51d7dcc96ca2fa4fe29edbe12b417e7188c", func := "pylon/pylonlaw01.WholeDivMatches", spec := "wholeDivMatches", unfollowed := true, recurses := true, apart := false, narrowed := true }
def WholeDivMatchesUptoSaid : Prop := wholeDivMatchesUptoRow.holds Try.pinned (OpenSpec.upto wholeDivMatchesSpec)

/-- 'pylonlaw01.WholeParseMatches', WHERE WHAT IT READS IS OF BULK AT MOST 1048576: true; the input reads as it did. -/
def wholeParseMatchesUptoRow : OpenClaim := { program := "ytoaghihhobggoaa", sum := "a06bf321ee230ad3048b0c9f519bf51d7dcc96ca2fa4fe29edbe12b417e7188c", func := "pylon/pylonlaw01.WholeParseMatches", spec := "wholeParseMatches", unfollowed := true, recurses := true, apart := false, narrowed := true }
def WholeParseMatchesUptoSaid : Prop := wholeParseMatchesUptoRow.holds Try.pinned (OpenSpec.upto wholeParseMatchesSpec)

/-- 'pylonlaw01.WholeRing', WHERE WHAT IT READS IS OF BULK AT MOST 1048576: true; the input reads as it did. -/
def wholeRingUptoRow : OpenClaim := { program := "ytoaghihhobggoaa", sum := "a06bf321ee230ad3048b0c9f519bf51d7dcc96ca2fa4fe29edbe12b417e7188c", func := "pylon/pylonlaw01.WholeRing", spec := "wholeRing", unfollowed := true, recurses := true, apart := false, narrowed := true }
def WholeRingUptoSaid : Prop := wholeRingUptoRow.holds Try.pinned (OpenSpec.upto wholeRingSpec)

/-- 'pylonlaw01.WholeEuclid', WHERE WHAT IT READS IS OF BULK AT MOST 1048576: true; the input reads as it did. -/
def wholeEuclidUptoRow : OpenClaim := { program := "ytoaghihhobggoaa", sum := "a06bf321ee230ad3048b0c9f519bf51d7dcc96ca2fa4fe29edbe12b417e7188c", func := "pylon/pylonlaw01.WholeEuclid", spec := "wholeEuclid", unfollowed := true, recurses := true, apart := false, narrowed := true }
def WholeEuclidUptoSaid : Prop := wholeEuclidUptoRow.holds Try.pinned (OpenSpec.upto wholeEuclidSpec)

/-- 'pylonlaw01.WholeExamples', WHERE WHAT IT READS IS OF BULK AT MOST 1048576: true; the input reads as it did. -/
def wholeExamplesUptoRow : OpenClaim := { program := "ytoaghihhobggoaa", sum := "a06bf321ee230ad3048b0c9f519bf51d7dcc96ca2fa4fe29edbe12b417e7188c", func := "pylon/pylonlaw01.WholeExamples", spec := "wholeExamples", unfollowed := true, recurses := true, apart := false, narrowed := true }
def WholeExamplesUptoSaid : Prop := wholeExamplesUptoRow.holds Try.pinned (OpenSpec.upto wholeExamplesSpec)

end Rows
end Go.Proofs.Ytoaghihhobggoaa
