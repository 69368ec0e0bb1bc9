/-
  No cell of these rows narrows 'for every input' (looked for: loops, veiled, ifaces, maps, wideKeys, modest, calm, conditions, laid).
  DERIVED. THE GIVEN ROWS OF THIS SEAT. 2 by the template 'for every input the law returns true; each argument reads behind the call as it read before'; 0 by the template 'total and deterministic' (their statements: YtcgdbdhhoomgiabGreatTotals.lean).
  GIVEN WITH THE SEED: the statements are not yours to turn. If you find one false, say at which input.
  Laid BY PROGRAM, IN A SANDBOX (cutbox-rows.mjs): the forced cells as the released guide's own fill.sh prints them over the translation ba65f63b9e359dcd… (all of the seat's roots in one cut). By AI agents, Wed Nov 11 2026. No macro, syntax, notation, axiom, sorry.
-/
import Derived.Test.YtcgdbdhhoomgiabGreatChecked
import GoSem.Claim
import GoSem.ClaimJoined
import GoSem.ClaimMapViews
import Derived.JoinedTies
import Derived.KernelRfl
namespace Go.Proofs.YtcgdbdhhoomgiabGreat
/- THE CELL 'sum', in the pinned program and in every row, IS THE sha256 OF THE DUMP (.gsa) THAT YtcgdbdhhoomgiabGreatProg.lean LOADS. Nothing in Lean hashes anything: it is a label: what it is worth is what the hold of that sum in a sandbox is worth. -/
noncomputable def Tryz.pinned : Pinned := { name := "ytcgdbdhhoomgiabgreat", sum := "ba65f63b9e359dcdb7706a2a20799dfa055d13bf315eb3b0a4f731460e9b95d5", checked := Tryz.checked }
namespace Rows
def none {H : Type} : Left H := { results := [], args := [] }

/-- 'pylonlaw03.VecBasis': WHATEVER THE INPUT: true; the input reads as it did. -/
def vecBasisSpec : ChangeSpec := { name := "vecBasis", fn := fun _ => fun
  | [d] => { results := [.lit (.bool true)], args := [d] }
  | _ => none }
def vecBasisRow : OpenClaim := { program := "ytcgdbdhhoomgiabgreat", sum := "ba65f63b9e359dcdb7706a2a20799dfa055d13bf315eb3b0a4f731460e9b95d5", func := "pylon/pylonlaw03.VecBasis", spec := "vecBasis", unfollowed := true, recurses := true, apart := false }
def VecBasisSaid : Prop := vecBasisRow.holds Tryz.pinned (OpenSpec.ofChange vecBasisSpec)

/-- ITS FALSE NEIGHBOUR: 'it returns false'. Refute it at one input. -/
def vecBasisWrong : ChangeSpec := { name := "vecBasis", fn := fun _ => fun
  | [d] => { results := [.lit (.bool false)], args := [d] }
  | _ => none }
def VecBasisWrongFalsely : Prop := vecBasisRow.holds Tryz.pinned (OpenSpec.ofChange vecBasisWrong)

/-- 'pylonlaw03.VecExamples': WHATEVER THE INPUT: true; the input reads as it did. -/
def vecExamplesSpec : ChangeSpec := { name := "vecExamples", fn := fun _ => fun
  | [] => { results := [.lit (.bool true)], args := [] }
  | _ => none }
def vecExamplesRow : OpenClaim := { program := "ytcgdbdhhoomgiabgreat", sum := "ba65f63b9e359dcdb7706a2a20799dfa055d13bf315eb3b0a4f731460e9b95d5", func := "pylon/pylonlaw03.VecExamples", spec := "vecExamples", unfollowed := true, recurses := true, apart := false }
def VecExamplesSaid : Prop := vecExamplesRow.holds Tryz.pinned (OpenSpec.ofChange vecExamplesSpec)

/-- ITS FALSE NEIGHBOUR: 'it returns false'. Refute it at one input. -/
def vecExamplesWrong : ChangeSpec := { name := "vecExamples", fn := fun _ => fun
  | [] => { results := [.lit (.bool false)], args := [] }
  | _ => none }
def VecExamplesWrongFalsely : Prop := vecExamplesRow.holds Tryz.pinned (OpenSpec.ofChange vecExamplesWrong)

/- THE SECOND FORM. 'bulk': how many values and letters a reading holds, each counted each time it is reached (what is shared counts as often as it is met; a slice's spare places count too). A statement '..UptoSaid' is the law's where the arguments, and the package variables that the reading takes, are together of bulk at most 1048576: NARROWER than '..Said'. Prove '..Said' where nothing that the law and all that it calls make is longer than what came in: it says more and counts as full. Else prove '..UptoSaid'. A law counts once. -/
mutual
def uptoBulk {H : Type} : DataW H → Nat
  | .lit (.string bytes) => bytes.length + 1
  | .lit _ => 1
  | .nil => 1
  | .ptr d => uptoBulk d + 1
  | .slice elems spare => uptoBulkAll elems + uptoBulkAll spare + 1
  | .agg parts => uptoBulkAll parts + 1
  | .iface _ d => uptoBulk d + 1
  | .map entries => uptoBulkEntries entries + 1
  | .held _ => 1
def uptoBulkAll {H : Type} : List (DataW H) → Nat
  | [] => 0
  | d :: r => uptoBulk d + uptoBulkAll r
def uptoBulkEntries {H : Type} : List (Lit × DataW H) → Nat
  | [] => 0
  | x :: r => uptoBulkEntry x + uptoBulkEntries r
def uptoBulkEntry {H : Type} : Lit × DataW H → Nat
  | (.string bytes, d) => bytes.length + uptoBulk d + 1
  | (_, d) => uptoBulk d + 1
 end
def uptoSmall : (H : Type) → List (DataW H) → Bool := fun _ ds => decide (uptoBulkAll ds ≤ 1048576)
def OpenSpec.upto (s : _root_.Go.ChangeSpec) : _root_.Go.OpenSpec := { _root_.Go.OpenSpec.ofChange s with cond := some uptoSmall }

/-- 'pylonlaw03.VecBasis', WHERE WHAT IT READS IS OF BULK AT MOST 1048576: true; the input reads as it did. -/
def vecBasisUptoRow : OpenClaim := { program := "ytcgdbdhhoomgiabgreat", sum := "ba65f63b9e359dcdb7706a2a20799dfa055d13bf315eb3b0a4f731460e9b95d5", func := "pylon/pylonlaw03.VecBasis", spec := "vecBasis", unfollowed := true, recurses := true, apart := false, narrowed := true }
def VecBasisUptoSaid : Prop := vecBasisUptoRow.holds Tryz.pinned (OpenSpec.upto vecBasisSpec)

/-- 'pylonlaw03.VecExamples', WHERE WHAT IT READS IS OF BULK AT MOST 1048576: true; the input reads as it did. -/
def vecExamplesUptoRow : OpenClaim := { program := "ytcgdbdhhoomgiabgreat", sum := "ba65f63b9e359dcdb7706a2a20799dfa055d13bf315eb3b0a4f731460e9b95d5", func := "pylon/pylonlaw03.VecExamples", spec := "vecExamples", unfollowed := true, recurses := true, apart := false, narrowed := true }
def VecExamplesUptoSaid : Prop := vecExamplesUptoRow.holds Tryz.pinned (OpenSpec.upto vecExamplesSpec)

end Rows
end Go.Proofs.YtcgdbdhhoomgiabGreat
