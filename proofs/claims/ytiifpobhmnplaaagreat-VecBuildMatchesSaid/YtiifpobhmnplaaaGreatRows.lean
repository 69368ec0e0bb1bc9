/-
  No cell of these rows narrows 'for every input' (looked for: loops, veiled, ifaces, maps, wideKeys, modest, calm, conditions, laid).
  DERIVED. THE GIVEN ROWS OF THIS SEAT. 8 by the template 'for every input the law returns true; each argument reads behind the call as it read before'; 0 by the template 'total and deterministic' (their statements: YtiifpobhmnplaaaGreatTotals.lean).
  GIVEN WITH THE SEED: the statements are not yours to turn. If you find one false, say at which input.
  Laid BY PROGRAM, IN A SANDBOX (cutbox-rows.mjs): the forced cells as the released guide's own fill.sh prints them over the translation 25881209d4f9402e… (all of the seat's roots in one cut). By AI agents, Wed Nov 11 2026. No macro, syntax, notation, axiom, sorry.
-/
import Derived.Test.YtiifpobhmnplaaaGreatChecked
import GoSem.Claim
import GoSem.ClaimJoined
import GoSem.ClaimMapViews
import Derived.JoinedTies
import Derived.KernelRfl
namespace Go.Proofs.YtiifpobhmnplaaaGreat
/- THE CELL 'sum', in the pinned program and in every row, IS THE sha256 OF THE DUMP (.gsa) THAT YtiifpobhmnplaaaGreatProg.lean LOADS. Nothing in Lean hashes anything: it is a label: what it is worth is what the hold of that sum in a sandbox is worth. -/
noncomputable def Tryz.pinned : Pinned := { name := "ytiifpobhmnplaaagreat", sum := "25881209d4f9402e7fe0d802de140b9486c1a0ff2dc29d61bc7bc7f4370900a4", checked := Tryz.checked }
namespace Rows
def none {H : Type} : Left H := { results := [], args := [] }

/-- 'pylonlaw03.VecMatches': WHATEVER THE INPUT: true; the input reads as it did. -/
def vecMatchesSpec : ChangeSpec := { name := "vecMatches", fn := fun _ => fun
  | [d1, d2, d3] => { results := [.lit (.bool true)], args := [d1, d2, d3] }
  | _ => none }
def vecMatchesRow : OpenClaim := { program := "ytiifpobhmnplaaagreat", sum := "25881209d4f9402e7fe0d802de140b9486c1a0ff2dc29d61bc7bc7f4370900a4", func := "pylon/pylonlaw03.VecMatches", spec := "vecMatches", unfollowed := true, recurses := true, apart := false }
def VecMatchesSaid : Prop := vecMatchesRow.holds Tryz.pinned (OpenSpec.ofChange vecMatchesSpec)

/-- ITS FALSE NEIGHBOUR: 'it returns false'. Refute it at one input. -/
def vecMatchesWrong : ChangeSpec := { name := "vecMatches", fn := fun _ => fun
  | [d1, d2, d3] => { results := [.lit (.bool false)], args := [d1, d2, d3] }
  | _ => none }
def VecMatchesWrongFalsely : Prop := vecMatchesRow.holds Tryz.pinned (OpenSpec.ofChange vecMatchesWrong)

/-- 'pylonlaw03.VecCompareMatches': WHATEVER THE INPUT: true; the input reads as it did. -/
def vecCompareMatchesSpec : ChangeSpec := { name := "vecCompareMatches", fn := fun _ => fun
  | [d1, d2] => { results := [.lit (.bool true)], args := [d1, d2] }
  | _ => none }
def vecCompareMatchesRow : OpenClaim := { program := "ytiifpobhmnplaaagreat", sum := "25881209d4f9402e7fe0d802de140b9486c1a0ff2dc29d61bc7bc7f4370900a4", func := "pylon/pylonlaw03.VecCompareMatches", spec := "vecCompareMatches", unfollowed := true, recurses := true, apart := false }
def VecCompareMatchesSaid : Prop := vecCompareMatchesRow.holds Tryz.pinned (OpenSpec.ofChange vecCompareMatchesSpec)

/-- ITS FALSE NEIGHBOUR: 'it returns false'. Refute it at one input. -/
def vecCompareMatchesWrong : ChangeSpec := { name := "vecCompareMatches", fn := fun _ => fun
  | [d1, d2] => { results := [.lit (.bool false)], args := [d1, d2] }
  | _ => none }
def VecCompareMatchesWrongFalsely : Prop := vecCompareMatchesRow.holds Tryz.pinned (OpenSpec.ofChange vecCompareMatchesWrong)

/-- 'pylonlaw03.VecBuildMatches': WHATEVER THE INPUT: true; the input reads as it did. -/
def vecBuildMatchesSpec : ChangeSpec := { name := "vecBuildMatches", fn := fun _ => fun
  | [d1, d2, d3, d4, d5] => { results := [.lit (.bool true)], args := [d1, d2, d3, d4, d5] }
  | _ => none }
def vecBuildMatchesRow : OpenClaim := { program := "ytiifpobhmnplaaagreat", sum := "25881209d4f9402e7fe0d802de140b9486c1a0ff2dc29d61bc7bc7f4370900a4", func := "pylon/pylonlaw03.VecBuildMatches", spec := "vecBuildMatches", unfollowed := true, recurses := true, apart := false }
def VecBuildMatchesSaid : Prop := vecBuildMatchesRow.holds Tryz.pinned (OpenSpec.ofChange vecBuildMatchesSpec)

/-- ITS FALSE NEIGHBOUR: 'it returns false'. Refute it at one input. -/
def vecBuildMatchesWrong : ChangeSpec := { name := "vecBuildMatches", fn := fun _ => fun
  | [d1, d2, d3, d4, d5] => { results := [.lit (.bool false)], args := [d1, d2, d3, d4, d5] }
  | _ => none }
def VecBuildMatchesWrongFalsely : Prop := vecBuildMatchesRow.holds Tryz.pinned (OpenSpec.ofChange vecBuildMatchesWrong)

/-- 'pylonlaw03.VecLimit': WHATEVER THE INPUT: true; the input reads as it did. -/
def vecLimitSpec : ChangeSpec := { name := "vecLimit", fn := fun _ => fun
  | [d1, d2] => { results := [.lit (.bool true)], args := [d1, d2] }
  | _ => none }
def vecLimitRow : OpenClaim := { program := "ytiifpobhmnplaaagreat", sum := "25881209d4f9402e7fe0d802de140b9486c1a0ff2dc29d61bc7bc7f4370900a4", func := "pylon/pylonlaw03.VecLimit", spec := "vecLimit", unfollowed := true, recurses := true, apart := false }
def VecLimitSaid : Prop := vecLimitRow.holds Tryz.pinned (OpenSpec.ofChange vecLimitSpec)

/-- ITS FALSE NEIGHBOUR: 'it returns false'. Refute it at one input. -/
def vecLimitWrong : ChangeSpec := { name := "vecLimit", fn := fun _ => fun
  | [d1, d2] => { results := [.lit (.bool false)], args := [d1, d2] }
  | _ => none }
def VecLimitWrongFalsely : Prop := vecLimitRow.holds Tryz.pinned (OpenSpec.ofChange vecLimitWrong)

/-- 'pylonlaw03.VecSpace': WHATEVER THE INPUT: true; the input reads as it did. -/
def vecSpaceSpec : ChangeSpec := { name := "vecSpace", fn := fun _ => fun
  | [d1, d2, d3, d4, d5] => { results := [.lit (.bool true)], args := [d1, d2, d3, d4, d5] }
  | _ => none }
def vecSpaceRow : OpenClaim := { program := "ytiifpobhmnplaaagreat", sum := "25881209d4f9402e7fe0d802de140b9486c1a0ff2dc29d61bc7bc7f4370900a4", func := "pylon/pylonlaw03.VecSpace", spec := "vecSpace", unfollowed := true, recurses := true, apart := false }
def VecSpaceSaid : Prop := vecSpaceRow.holds Tryz.pinned (OpenSpec.ofChange vecSpaceSpec)

/-- ITS FALSE NEIGHBOUR: 'it returns false'. Refute it at one input. -/
def vecSpaceWrong : ChangeSpec := { name := "vecSpace", fn := fun _ => fun
  | [d1, d2, d3, d4, d5] => { results := [.lit (.bool false)], args := [d1, d2, d3, d4, d5] }
  | _ => none }
def VecSpaceWrongFalsely : Prop := vecSpaceRow.holds Tryz.pinned (OpenSpec.ofChange vecSpaceWrong)

/-- 'pylonlaw03.VecOrder': WHATEVER THE INPUT: true; the input reads as it did. -/
def vecOrderSpec : ChangeSpec := { name := "vecOrder", fn := fun _ => fun
  | [d1, d2, d3, d4] => { results := [.lit (.bool true)], args := [d1, d2, d3, d4] }
  | _ => none }
def vecOrderRow : OpenClaim := { program := "ytiifpobhmnplaaagreat", sum := "25881209d4f9402e7fe0d802de140b9486c1a0ff2dc29d61bc7bc7f4370900a4", func := "pylon/pylonlaw03.VecOrder", spec := "vecOrder", unfollowed := true, recurses := true, apart := false }
def VecOrderSaid : Prop := vecOrderRow.holds Tryz.pinned (OpenSpec.ofChange vecOrderSpec)

/-- ITS FALSE NEIGHBOUR: 'it returns false'. Refute it at one input. -/
def vecOrderWrong : ChangeSpec := { name := "vecOrder", fn := fun _ => fun
  | [d1, d2, d3, d4] => { results := [.lit (.bool false)], args := [d1, d2, d3, d4] }
  | _ => none }
def VecOrderWrongFalsely : Prop := vecOrderRow.holds Tryz.pinned (OpenSpec.ofChange vecOrderWrong)

/-- 'pylonlaw03.VecBasis': WHATEVER THE INPUT: true; the input reads as it did. -/
def vecBasisSpec : ChangeSpec := { name := "vecBasis", fn := fun _ => fun
  | [d] => { results := [.lit (.bool true)], args := [d] }
  | _ => none }
def vecBasisRow : OpenClaim := { program := "ytiifpobhmnplaaagreat", sum := "25881209d4f9402e7fe0d802de140b9486c1a0ff2dc29d61bc7bc7f4370900a4", func := "pylon/pylonlaw03.VecBasis", spec := "vecBasis", unfollowed := true, recurses := true, apart := false }
def VecBasisSaid : Prop := vecBasisRow.holds Tryz.pinned (OpenSpec.ofChange vecBasisSpec)

/-- ITS FALSE NEIGHBOUR: 'it returns false'. Refute it at one input. -/
def vecBasisWrong : ChangeSpec := { name := "vecBasis", fn := fun _ => fun
  | [d] => { results := [.lit (.bool false)], args := [d] }
  | _ => none }
def VecBasisWrongFalsely : Prop := vecBasisRow.holds Tryz.pinned (OpenSpec.ofChange vecBasisWrong)

/-- 'pylonlaw03.VecExamples': WHATEVER THE INPUT: true; the input reads as it did. -/
def vecExamplesSpec : ChangeSpec := { name := "vecExamples", fn := fun _ => fun
  | [] => { results := [.lit (.bool true)], args := [] }
  | _ => none }
def vecExamplesRow : OpenClaim := { program := "ytiifpobhmnplaaagreat", sum := "25881209d4f9402e7fe0d802de140b9486c1a0ff2dc29d61bc7bc7f4370900a4", func := "pylon/pylonlaw03.VecExamples", spec := "vecExamples", unfollowed := true, recurses := true, apart := false }
def VecExamplesSaid : Prop := vecExamplesRow.holds Tryz.pinned (OpenSpec.ofChange vecExamplesSpec)

/-- ITS FALSE NEIGHBOUR: 'it returns false'. Refute it at one input. -/
def vecExamplesWrong : ChangeSpec := { name := "vecExamples", fn := fun _ => fun
  | [] => { results := [.lit (.bool false)], args := [] }
  | _ => none }
def VecExamplesWrongFalsely : Prop := vecExamplesRow.holds Tryz.pinned (OpenSpec.ofChange vecExamplesWrong)

/- THE SECOND FORM. 'bulk': how many values and letters a reading holds, each counted each time it is reached (what is shared counts as often as it is met; a slice's spare places count too). A statement '..UptoSaid' is the law's where the arguments, and the package variables that the reading takes, are together of bulk at most 1048576: NARROWER than '..Said'. Prove '..Said' where nothing that the law and all that it calls make is longer than what came in: it says more and counts as full. Else prove '..UptoSaid'. A law counts once. -/
mutual
def uptoBulk {H : Type} : DataW H → Nat
  | .lit (.string bytes) => bytes.length + 1
  | .lit _ => 1
  | .nil => 1
  | .ptr d => uptoBulk d + 1
  | .slice elems spare => uptoBulkAll elems + uptoBulkAll spare + 1
  | .agg parts => uptoBulkAll parts + 1
  | .iface _ d => uptoBulk d + 1
  | .map entries => uptoBulkEntries entries + 1
  | .held _ => 1
def uptoBulkAll {H : Type} : List (DataW H) → Nat
  | [] => 0
  | d :: r => uptoBulk d + uptoBulkAll r
def uptoBulkEntries {H : Type} : List (Lit × DataW H) → Nat
  | [] => 0
  | x :: r => uptoBulkEntry x + uptoBulkEntries r
def uptoBulkEntry {H : Type} : Lit × DataW H → Nat
  | (.string bytes, d) => bytes.length + uptoBulk d + 1
  | (_, d) => uptoBulk d + 1
 end
def uptoSmall : (H : Type) → List (DataW H) → Bool := fun _ ds => decide (uptoBulkAll ds ≤ 1048576)
def OpenSpec.upto (s : _root_.Go.ChangeSpec) : _root_.Go.OpenSpec := { _root_.Go.OpenSpec.ofChange s with cond := some uptoSmall }

/-- 'pylonlaw03.VecMatches', WHERE WHAT IT READS IS OF BULK AT MOST 1048576: true; the input reads as it did. -/
def vecMatchesUptoRow : OpenClaim := { program := "ytiifpobhmnplaaagreat", sum := "25881209d4f9402e7fe0d802de140b9486c1a0ff2dc29d61bc7bc7f4370900a4", func := "pylon/pylonlaw03.VecMatches", spec := "vecMatches", unfollowed := true, recurses := true, apart := false, narrowed := true }
def VecMatchesUptoSaid : Prop := vecMatchesUptoRow.holds Tryz.pinned (OpenSpec.upto vecMatchesSpec)

/-- 'pylonlaw03.VecCompareMatches', WHERE WHAT IT READS IS OF BULK AT MOST 1048576: true; the input reads as it did. -/
def vecCompareMatchesUptoRow : OpenClaim := { program := "ytiifpobhmnplaaagreat", sum := "25881209d4f9402e7fe0d802de140b9486c1a0ff2dc29d61bc7bc7f4370900a4", func := "pylon/pylonlaw03.VecCompareMatches", spec := "vecCompareMatches", unfollowed := true, recurses := true, apart := false, narrowed := true }
def VecCompareMatchesUptoSaid : Prop := vecCompareMatchesUptoRow.holds Tryz.pinned (OpenSpec.upto vecCompareMatchesSpec)

/-- 'pylonlaw03.VecBuildMatches', WHERE WHAT IT READS IS OF BULK AT MOST 1048576: true; the input reads as it did. -/
def vecBuildMatchesUptoRow : OpenClaim := { program := "ytiifpobhmnplaaagreat", sum := "25881209d4f9402e7fe0d802de140b9486c1a0ff2dc29d61bc7bc7f4370900a4", func := "pylon/pylonlaw03.VecBuildMatches", spec := "vecBuildMatches", unfollowed := true, recurses := true, apart := false, narrowed := true }
def VecBuildMatchesUptoSaid : Prop := vecBuildMatchesUptoRow.holds Tryz.pinned (OpenSpec.upto vecBuildMatchesSpec)

/-- 'pylonlaw03.VecLimit', WHERE WHAT IT READS IS OF BULK AT MOST 1048576: true; the input reads as it did. -/
def vecLimitUptoRow : OpenClaim := { program := "ytiifpobhmnplaaagreat", sum := "25881209d4f9402e7fe0d802de140b9486c1a0ff2dc29d61bc7bc7f4370900a4", func := "pylon/pylonlaw03.VecLimit", spec := "vecLimit", unfollowed := true, recurses := true, apart := false, narrowed := true }
def VecLimitUptoSaid : Prop := vecLimitUptoRow.holds Tryz.pinned (OpenSpec.upto vecLimitSpec)

/-- 'pylonlaw03.VecSpace', WHERE WHAT IT READS IS OF BULK AT MOST 1048576: true; the input reads as it did. -/
def vecSpaceUptoRow : OpenClaim := { program := "ytiifpobhmnplaaagreat", sum := "25881209d4f9402e7fe0d802de140b9486c1a0ff2dc29d61bc7bc7f4370900a4", func := "pylon/pylonlaw03.VecSpace", spec := "vecSpace", unfollowed := true, recurses := true, apart := false, narrowed := true }
def VecSpaceUptoSaid : Prop := vecSpaceUptoRow.holds Tryz.pinned (OpenSpec.upto vecSpaceSpec)

/-- 'pylonlaw03.VecOrder', WHERE WHAT IT READS IS OF BULK AT MOST 1048576: true; the input reads as it did. -/
def vecOrderUptoRow : OpenClaim := { program := "ytiifpobhmnplaaagreat", sum := "25881209d4f9402e7fe0d802de140b9486c1a0ff2dc29d61bc7bc7f4370900a4", func := "pylon/pylonlaw03.VecOrder", spec := "vecOrder", unfollowed := true, recurses := true, apart := false, narrowed := true }
def VecOrderUptoSaid : Prop := vecOrderUptoRow.holds Tryz.pinned (OpenSpec.upto vecOrderSpec)

/-- 'pylonlaw03.VecBasis', WHERE WHAT IT READS IS OF BULK AT MOST 1048576: true; the input reads as it did. -/
def vecBasisUptoRow : OpenClaim := { program := "ytiifpobhmnplaaagreat", sum := "25881209d4f9402e7fe0d802de140b9486c1a0ff2dc29d61bc7bc7f4370900a4", func := "pylon/pylonlaw03.VecBasis", spec := "vecBasis", unfollowed := true, recurses := true, apart := false, narrowed := true }
def VecBasisUptoSaid : Prop := vecBasisUptoRow.holds Tryz.pinned (OpenSpec.upto vecBasisSpec)

/-- 'pylonlaw03.VecExamples', WHERE WHAT IT READS IS OF BULK AT MOST 1048576: true; the input reads as it did. -/
def vecExamplesUptoRow : OpenClaim := { program := "ytiifpobhmnplaaagreat", sum := "25881209d4f9402e7fe0d802de140b9486c1a0ff2dc29d61bc7bc7f4370900a4", func := "pylon/pylonlaw03.VecExamples", spec := "vecExamples", unfollowed := true, recurses := true, apart := false, narrowed := true }
def VecExamplesUptoSaid : Prop := vecExamplesUptoRow.holds Tryz.pinned (OpenSpec.upto vecExamplesSpec)

end Rows
end Go.Proofs.YtiifpobhmnplaaaGreat
