/-
  No cell of these rows narrows 'for every input' (looked for: loops, veiled, ifaces, maps, wideKeys, modest, calm, conditions, laid).
  DERIVED. THE GIVEN ROWS OF THIS SEAT. 7 by the template 'for every input the law returns true; each argument reads behind the call as it read before'; 0 by the template 'total and deterministic' (their statements: YtglhdielkkhefaaGreatTotals.lean).
  GIVEN WITH THE SEED: the statements are not yours to turn. If you find one false, say at which input.
  Laid BY PROGRAM, IN A SANDBOX (cutbox-rows.mjs): the forced cells as the released guide's own fill.sh prints them over the translation 0aeeb23235f2c48d… (all of the seat's roots in one cut). By AI agents, Wed Nov 11 2026. No macro, syntax, notation, axiom, sorry.
-/
import Derived.Test.YtglhdielkkhefaaGreatChecked
import GoSem.Claim
import GoSem.ClaimJoined
import GoSem.ClaimMapViews
import Derived.JoinedTies
import Derived.KernelRfl
namespace Go.Proofs.YtglhdielkkhefaaGreat
/- THE CELL 'sum', in the pinned program and in every row, IS THE sha256 OF THE DUMP (.gsa) THAT YtglhdielkkhefaaGreatProg.lean LOADS. Nothing in Lean hashes anything: it is a label: what it is worth is what the hold of that sum in a sandbox is worth. -/
noncomputable def Tryz.pinned : Pinned := { name := "ytglhdielkkhefaagreat", sum := "0aeeb23235f2c48d5c50f73bd4df2a9f29ee6bdbbf8bb8fa3b68349f618cab89", checked := Tryz.checked }
namespace Rows
def none {H : Type} : Left H := { results := [], args := [] }

/-- 'pylonlaw04.MatMatches': WHATEVER THE INPUT: true; the input reads as it did. -/
def matMatchesSpec : ChangeSpec := { name := "matMatches", fn := fun _ => fun
  | [d1, d2, d3, d4, d5, d6] => { results := [.lit (.bool true)], args := [d1, d2, d3, d4, d5, d6] }
  | _ => none }
def matMatchesRow : OpenClaim := { program := "ytglhdielkkhefaagreat", sum := "0aeeb23235f2c48d5c50f73bd4df2a9f29ee6bdbbf8bb8fa3b68349f618cab89", func := "pylon/pylonlaw04.MatMatches", spec := "matMatches", unfollowed := true, recurses := true, apart := false }
def MatMatchesSaid : Prop := matMatchesRow.holds Tryz.pinned (OpenSpec.ofChange matMatchesSpec)

/-- ITS FALSE NEIGHBOUR: 'it returns false'. Refute it at one input. -/
def matMatchesWrong : ChangeSpec := { name := "matMatches", fn := fun _ => fun
  | [d1, d2, d3, d4, d5, d6] => { results := [.lit (.bool false)], args := [d1, d2, d3, d4, d5, d6] }
  | _ => none }
def MatMatchesWrongFalsely : Prop := matMatchesRow.holds Tryz.pinned (OpenSpec.ofChange matMatchesWrong)

/-- 'pylonlaw04.MatMulMatches': WHATEVER THE INPUT: true; the input reads as it did. -/
def matMulMatchesSpec : ChangeSpec := { name := "matMulMatches", fn := fun _ => fun
  | [d1, d2, d3, d4] => { results := [.lit (.bool true)], args := [d1, d2, d3, d4] }
  | _ => none }
def matMulMatchesRow : OpenClaim := { program := "ytglhdielkkhefaagreat", sum := "0aeeb23235f2c48d5c50f73bd4df2a9f29ee6bdbbf8bb8fa3b68349f618cab89", func := "pylon/pylonlaw04.MatMulMatches", spec := "matMulMatches", unfollowed := true, recurses := true, apart := false }
def MatMulMatchesSaid : Prop := matMulMatchesRow.holds Tryz.pinned (OpenSpec.ofChange matMulMatchesSpec)

/-- ITS FALSE NEIGHBOUR: 'it returns false'. Refute it at one input. -/
def matMulMatchesWrong : ChangeSpec := { name := "matMulMatches", fn := fun _ => fun
  | [d1, d2, d3, d4] => { results := [.lit (.bool false)], args := [d1, d2, d3, d4] }
  | _ => none }
def MatMulMatchesWrongFalsely : Prop := matMulMatchesRow.holds Tryz.pinned (OpenSpec.ofChange matMulMatchesWrong)

/-- 'pylonlaw04.MatLimit': WHATEVER THE INPUT: true; the input reads as it did. -/
def matLimitSpec : ChangeSpec := { name := "matLimit", fn := fun _ => fun
  | [d1, d2] => { results := [.lit (.bool true)], args := [d1, d2] }
  | _ => none }
def matLimitRow : OpenClaim := { program := "ytglhdielkkhefaagreat", sum := "0aeeb23235f2c48d5c50f73bd4df2a9f29ee6bdbbf8bb8fa3b68349f618cab89", func := "pylon/pylonlaw04.MatLimit", spec := "matLimit", unfollowed := true, recurses := true, apart := false }
def MatLimitSaid : Prop := matLimitRow.holds Tryz.pinned (OpenSpec.ofChange matLimitSpec)

/-- ITS FALSE NEIGHBOUR: 'it returns false'. Refute it at one input. -/
def matLimitWrong : ChangeSpec := { name := "matLimit", fn := fun _ => fun
  | [d1, d2] => { results := [.lit (.bool false)], args := [d1, d2] }
  | _ => none }
def MatLimitWrongFalsely : Prop := matLimitRow.holds Tryz.pinned (OpenSpec.ofChange matLimitWrong)

/-- 'pylonlaw04.MatRing': WHATEVER THE INPUT: true; the input reads as it did. -/
def matRingSpec : ChangeSpec := { name := "matRing", fn := fun _ => fun
  | [d1, d2, d3] => { results := [.lit (.bool true)], args := [d1, d2, d3] }
  | _ => none }
def matRingRow : OpenClaim := { program := "ytglhdielkkhefaagreat", sum := "0aeeb23235f2c48d5c50f73bd4df2a9f29ee6bdbbf8bb8fa3b68349f618cab89", func := "pylon/pylonlaw04.MatRing", spec := "matRing", unfollowed := true, recurses := true, apart := false }
def MatRingSaid : Prop := matRingRow.holds Tryz.pinned (OpenSpec.ofChange matRingSpec)

/-- ITS FALSE NEIGHBOUR: 'it returns false'. Refute it at one input. -/
def matRingWrong : ChangeSpec := { name := "matRing", fn := fun _ => fun
  | [d1, d2, d3] => { results := [.lit (.bool false)], args := [d1, d2, d3] }
  | _ => none }
def MatRingWrongFalsely : Prop := matRingRow.holds Tryz.pinned (OpenSpec.ofChange matRingWrong)

/-- 'pylonlaw04.MatTranspose': WHATEVER THE INPUT: true; the input reads as it did. -/
def matTransposeSpec : ChangeSpec := { name := "matTranspose", fn := fun _ => fun
  | [d1, d2, d3, d4] => { results := [.lit (.bool true)], args := [d1, d2, d3, d4] }
  | _ => none }
def matTransposeRow : OpenClaim := { program := "ytglhdielkkhefaagreat", sum := "0aeeb23235f2c48d5c50f73bd4df2a9f29ee6bdbbf8bb8fa3b68349f618cab89", func := "pylon/pylonlaw04.MatTranspose", spec := "matTranspose", unfollowed := true, recurses := true, apart := false }
def MatTransposeSaid : Prop := matTransposeRow.holds Tryz.pinned (OpenSpec.ofChange matTransposeSpec)

/-- ITS FALSE NEIGHBOUR: 'it returns false'. Refute it at one input. -/
def matTransposeWrong : ChangeSpec := { name := "matTranspose", fn := fun _ => fun
  | [d1, d2, d3, d4] => { results := [.lit (.bool false)], args := [d1, d2, d3, d4] }
  | _ => none }
def MatTransposeWrongFalsely : Prop := matTransposeRow.holds Tryz.pinned (OpenSpec.ofChange matTransposeWrong)

/-- 'pylonlaw04.MatColumns': WHATEVER THE INPUT: true; the input reads as it did. -/
def matColumnsSpec : ChangeSpec := { name := "matColumns", fn := fun _ => fun
  | [d1, d2, d3] => { results := [.lit (.bool true)], args := [d1, d2, d3] }
  | _ => none }
def matColumnsRow : OpenClaim := { program := "ytglhdielkkhefaagreat", sum := "0aeeb23235f2c48d5c50f73bd4df2a9f29ee6bdbbf8bb8fa3b68349f618cab89", func := "pylon/pylonlaw04.MatColumns", spec := "matColumns", unfollowed := true, recurses := true, apart := false }
def MatColumnsSaid : Prop := matColumnsRow.holds Tryz.pinned (OpenSpec.ofChange matColumnsSpec)

/-- ITS FALSE NEIGHBOUR: 'it returns false'. Refute it at one input. -/
def matColumnsWrong : ChangeSpec := { name := "matColumns", fn := fun _ => fun
  | [d1, d2, d3] => { results := [.lit (.bool false)], args := [d1, d2, d3] }
  | _ => none }
def MatColumnsWrongFalsely : Prop := matColumnsRow.holds Tryz.pinned (OpenSpec.ofChange matColumnsWrong)

/-- 'pylonlaw04.MatExamples': WHATEVER THE INPUT: true; the input reads as it did. -/
def matExamplesSpec : ChangeSpec := { name := "matExamples", fn := fun _ => fun
  | [] => { results := [.lit (.bool true)], args := [] }
  | _ => none }
def matExamplesRow : OpenClaim := { program := "ytglhdielkkhefaagreat", sum := "0aeeb23235f2c48d5c50f73bd4df2a9f29ee6bdbbf8bb8fa3b68349f618cab89", func := "pylon/pylonlaw04.MatExamples", spec := "matExamples", unfollowed := true, recurses := true, apart := false }
def MatExamplesSaid : Prop := matExamplesRow.holds Tryz.pinned (OpenSpec.ofChange matExamplesSpec)

/-- ITS FALSE NEIGHBOUR: 'it returns false'. Refute it at one input. -/
def matExamplesWrong : ChangeSpec := { name := "matExamples", fn := fun _ => fun
  | [] => { results := [.lit (.bool false)], args := [] }
  | _ => none }
def MatExamplesWrongFalsely : Prop := matExamplesRow.holds Tryz.pinned (OpenSpec.ofChange matExamplesWrong)

/- THE SECOND FORM. 'bulk': how many values and letters a reading holds, each counted each time it is reached (what is shared counts as often as it is met; a slice's spare places count too). A statement '..UptoSaid' is the law's where the arguments, and the package variables that the reading takes, are together of bulk at most 1048576: NARROWER than '..Said'. Prove '..Said' where nothing that the law and all that it calls make is longer than what came in: it says more and counts as full. Else prove '..UptoSaid'. A law counts once. -/
mutual
def uptoBulk {H : Type} : DataW H → Nat
  | .lit (.string bytes) => bytes.length + 1
  | .lit _ => 1
  | .nil => 1
  | .ptr d => uptoBulk d + 1
  | .slice elems spare => uptoBulkAll elems + uptoBulkAll spare + 1
  | .agg parts => uptoBulkAll parts + 1
  | .iface _ d => uptoBulk d + 1
  | .map entries => uptoBulkEntries entries + 1
  | .held _ => 1
def uptoBulkAll {H : Type} : List (DataW H) → Nat
  | [] => 0
  | d :: r => uptoBulk d + uptoBulkAll r
def uptoBulkEntries {H : Type} : List (Lit × DataW H) → Nat
  | [] => 0
  | x :: r => uptoBulkEntry x + uptoBulkEntries r
def uptoBulkEntry {H : Type} : Lit × DataW H → Nat
  | (.string bytes, d) => bytes.length + uptoBulk d + 1
  | (_, d) => uptoBulk d + 1
 end
def uptoSmall : (H : Type) → List (DataW H) → Bool := fun _ ds => decide (uptoBulkAll ds ≤ 1048576)
def OpenSpec.upto (s : _root_.Go.ChangeSpec) : _root_.Go.OpenSpec := { _root_.Go.OpenSpec.ofChange s with cond := some uptoSmall }

/-- 'pylonlaw04.MatMatches', WHERE WHAT IT READS IS OF BULK AT MOST 1048576: true; the input reads as it did. -/
def matMatchesUptoRow : OpenClaim := { program := "ytglhdielkkhefaagreat", sum := "0aeeb23235f2c48d5c50f73bd4df2a9f29ee6bdbbf8bb8fa3b68349f618cab89", func := "pylon/pylonlaw04.MatMatches", spec := "matMatches", unfollowed := true, recurses := true, apart := false, narrowed := true }
def MatMatchesUptoSaid : Prop := matMatchesUptoRow.holds Tryz.pinned (OpenSpec.upto matMatchesSpec)

/-- 'pylonlaw04.MatMulMatches', WHERE WHAT IT READS IS OF BULK AT MOST 1048576: true; the input reads as it did. -/
def matMulMatchesUptoRow : OpenClaim := { program := "ytglhdielkkhefaagreat", sum := "0aeeb23235f2c48d5c50f73bd4df2a9f29ee6bdbbf8bb8fa3b68349f618cab89", func := "pylon/pylonlaw04.MatMulMatches", spec := "matMulMatches", unfollowed := true, recurses := true, apart := false, narrowed := true }
def MatMulMatchesUptoSaid : Prop := matMulMatchesUptoRow.holds Tryz.pinned (OpenSpec.upto matMulMatchesSpec)

/-- 'pylonlaw04.MatLimit', WHERE WHAT IT READS IS OF BULK AT MOST 1048576: true; the input reads as it did. -/
def matLimitUptoRow : OpenClaim := { program := "ytglhdielkkhefaagreat", sum := "0aeeb23235f2c48d5c50f73bd4df2a9f29ee6bdbbf8bb8fa3b68349f618cab89", func := "pylon/pylonlaw04.MatLimit", spec := "matLimit", unfollowed := true, recurses := true, apart := false, narrowed := true }
def MatLimitUptoSaid : Prop := matLimitUptoRow.holds Tryz.pinned (OpenSpec.upto matLimitSpec)

/-- 'pylonlaw04.MatRing', WHERE WHAT IT READS IS OF BULK AT MOST 1048576: true; the input reads as it did. -/
def matRingUptoRow : OpenClaim := { program := "ytglhdielkkhefaagreat", sum := "0aeeb23235f2c48d5c50f73bd4df2a9f29ee6bdbbf8bb8fa3b68349f618cab89", func := "pylon/pylonlaw04.MatRing", spec := "matRing", unfollowed := true, recurses := true, apart := false, narrowed := true }
def MatRingUptoSaid : Prop := matRingUptoRow.holds Tryz.pinned (OpenSpec.upto matRingSpec)

/-- 'pylonlaw04.MatTranspose', WHERE WHAT IT READS IS OF BULK AT MOST 1048576: true; the input reads as it did. -/
def matTransposeUptoRow : OpenClaim := { program := "ytglhdielkkhefaagreat", sum := "0aeeb23235f2c48d5c50f73bd4df2a9f29ee6bdbbf8bb8fa3b68349f618cab89", func := "pylon/pylonlaw04.MatTranspose", spec := "matTranspose", unfollowed := true, recurses := true, apart := false, narrowed := true }
def MatTransposeUptoSaid : Prop := matTransposeUptoRow.holds Tryz.pinned (OpenSpec.upto matTransposeSpec)

/-- 'pylonlaw04.MatColumns', WHERE WHAT IT READS IS OF BULK AT MOST 1048576: true; the input reads as it did. -/
def matColumnsUptoRow : OpenClaim := { program := "ytglhdielkkhefaagreat", sum := "0aeeb23235f2c48d5c50f73bd4df2a9f29ee6bdbbf8bb8fa3b68349f618cab89", func := "pylon/pylonlaw04.MatColumns", spec := "matColumns", unfollowed := true, recurses := true, apart := false, narrowed := true }
def MatColumnsUptoSaid : Prop := matColumnsUptoRow.holds Tryz.pinned (OpenSpec.upto matColumnsSpec)

/-- 'pylonlaw04.MatExamples', WHERE WHAT IT READS IS OF BULK AT MOST 1048576: true; the input reads as it did. -/
def matExamplesUptoRow : OpenClaim := { program := "ytglhdielkkhefaagreat", sum := "0aeeb23235f2c48d5c50f73bd4df2a9f29ee6bdbbf8bb8fa3b68349f618cab89", func := "pylon/pylonlaw04.MatExamples", spec := "matExamples", unfollowed := true, recurses := true, apart := false, narrowed := true }
def MatExamplesUptoSaid : Prop := matExamplesUptoRow.holds Tryz.pinned (OpenSpec.upto matExamplesSpec)

end Rows
end Go.Proofs.YtglhdielkkhefaaGreat
