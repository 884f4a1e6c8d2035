/-
  No cell of these rows narrows 'for every input' (looked for: loops, veiled, ifaces, maps, wideKeys, modest, calm, conditions, laid).
  DERIVED. THE GIVEN ROWS OF THIS SEAT. 9 by the template 'for every input the law returns true; each argument reads behind the call as it read before'; 0 by the template 'total and deterministic' (their statements: YtdkmedlffphmdaaTotals.lean).
  GIVEN WITH THE SEED: the statements are not yours to turn. If you find one false, say at which input.
  Laid BY PROGRAM, IN A SANDBOX (cutbox-rows.mjs): the forced cells as the released guide's own fill.sh prints them over the translation a63b0ef43f84db3a… (all of the seat's roots in one cut). By AI agents, Wed Nov 11 2026. No macro, syntax, notation, axiom, sorry.
-/
import Derived.Test.YtdkmedlffphmdaaChecked
import GoSem.Claim
import GoSem.ClaimJoined
import GoSem.ClaimMapViews
import Derived.JoinedTies
import Derived.KernelRfl
namespace Go.Proofs.Ytdkmedlffphmdaa
/- THE CELL 'sum', in the pinned program and in every row, IS THE sha256 OF THE DUMP (.gsa) THAT YtdkmedlffphmdaaProg.lean LOADS. Nothing in Lean hashes anything: it is a label: what it is worth is what the hold of that sum in a sandbox is worth. -/
noncomputable def Try.pinned : Pinned := { name := "ytdkmedlffphmdaa", sum := "a63b0ef43f84db3afd9daa7b33c3673fda87c8a2b78f371d931876f1d4fee72b", checked := Try.checked }
namespace Rows
def none {H : Type} : Left H := { results := [], args := [] }

/-- 'laws.FnNeighbors': WHATEVER THE INPUT: true; the input reads as it did. -/
def fnNeighborsSpec : ChangeSpec := { name := "fnNeighbors", fn := fun _ => fun
  | [d] => { results := [.lit (.bool true)], args := [d] }
  | _ => none }
def fnNeighborsRow : OpenClaim := { program := "ytdkmedlffphmdaa", sum := "a63b0ef43f84db3afd9daa7b33c3673fda87c8a2b78f371d931876f1d4fee72b", func := "loop.example/goboard/laws.FnNeighbors", spec := "fnNeighbors", apart := false }
def FnNeighborsSaid : Prop := fnNeighborsRow.holds Try.pinned (OpenSpec.ofChange fnNeighborsSpec)

/-- ITS FALSE NEIGHBOUR: 'it returns false'. Refute it at one input. -/
def fnNeighborsWrong : ChangeSpec := { name := "fnNeighbors", fn := fun _ => fun
  | [d] => { results := [.lit (.bool false)], args := [d] }
  | _ => none }
def FnNeighborsWrongFalsely : Prop := fnNeighborsRow.holds Try.pinned (OpenSpec.ofChange fnNeighborsWrong)

/-- 'laws.FnNeighborsImage': WHATEVER THE INPUT: true; the input reads as it did. -/
def fnNeighborsImageSpec : ChangeSpec := { name := "fnNeighborsImage", fn := fun _ => fun
  | [d] => { results := [.lit (.bool true)], args := [d] }
  | _ => none }
def fnNeighborsImageRow : OpenClaim := { program := "ytdkmedlffphmdaa", sum := "a63b0ef43f84db3afd9daa7b33c3673fda87c8a2b78f371d931876f1d4fee72b", func := "loop.example/goboard/laws.FnNeighborsImage", spec := "fnNeighborsImage", apart := false }
def FnNeighborsImageSaid : Prop := fnNeighborsImageRow.holds Try.pinned (OpenSpec.ofChange fnNeighborsImageSpec)

/-- ITS FALSE NEIGHBOUR: 'it returns false'. Refute it at one input. -/
def fnNeighborsImageWrong : ChangeSpec := { name := "fnNeighborsImage", fn := fun _ => fun
  | [d] => { results := [.lit (.bool false)], args := [d] }
  | _ => none }
def FnNeighborsImageWrongFalsely : Prop := fnNeighborsImageRow.holds Try.pinned (OpenSpec.ofChange fnNeighborsImageWrong)

/-- 'laws.FnTransformPoint': WHATEVER THE INPUT: true; the input reads as it did. -/
def fnTransformPointSpec : ChangeSpec := { name := "fnTransformPoint", fn := fun _ => fun
  | [d] => { results := [.lit (.bool true)], args := [d] }
  | _ => none }
def fnTransformPointRow : OpenClaim := { program := "ytdkmedlffphmdaa", sum := "a63b0ef43f84db3afd9daa7b33c3673fda87c8a2b78f371d931876f1d4fee72b", func := "loop.example/goboard/laws.FnTransformPoint", spec := "fnTransformPoint", apart := false }
def FnTransformPointSaid : Prop := fnTransformPointRow.holds Try.pinned (OpenSpec.ofChange fnTransformPointSpec)

/-- ITS FALSE NEIGHBOUR: 'it returns false'. Refute it at one input. -/
def fnTransformPointWrong : ChangeSpec := { name := "fnTransformPoint", fn := fun _ => fun
  | [d] => { results := [.lit (.bool false)], args := [d] }
  | _ => none }
def FnTransformPointWrongFalsely : Prop := fnTransformPointRow.holds Try.pinned (OpenSpec.ofChange fnTransformPointWrong)

/-- 'laws.FnComposeOf': WHATEVER THE INPUT: true; the input reads as it did. -/
def fnComposeOfSpec : ChangeSpec := { name := "fnComposeOf", fn := fun _ => fun
  | [d] => { results := [.lit (.bool true)], args := [d] }
  | _ => none }
def fnComposeOfRow : OpenClaim := { program := "ytdkmedlffphmdaa", sum := "a63b0ef43f84db3afd9daa7b33c3673fda87c8a2b78f371d931876f1d4fee72b", func := "loop.example/goboard/laws.FnComposeOf", spec := "fnComposeOf", apart := false }
def FnComposeOfSaid : Prop := fnComposeOfRow.holds Try.pinned (OpenSpec.ofChange fnComposeOfSpec)

/-- ITS FALSE NEIGHBOUR: 'it returns false'. Refute it at one input. -/
def fnComposeOfWrong : ChangeSpec := { name := "fnComposeOf", fn := fun _ => fun
  | [d] => { results := [.lit (.bool false)], args := [d] }
  | _ => none }
def FnComposeOfWrongFalsely : Prop := fnComposeOfRow.holds Try.pinned (OpenSpec.ofChange fnComposeOfWrong)

/-- 'laws.FnComposeOfThree': WHATEVER THE INPUT: true; the input reads as it did. -/
def fnComposeOfThreeSpec : ChangeSpec := { name := "fnComposeOfThree", fn := fun _ => fun
  | [d] => { results := [.lit (.bool true)], args := [d] }
  | _ => none }
def fnComposeOfThreeRow : OpenClaim := { program := "ytdkmedlffphmdaa", sum := "a63b0ef43f84db3afd9daa7b33c3673fda87c8a2b78f371d931876f1d4fee72b", func := "loop.example/goboard/laws.FnComposeOfThree", spec := "fnComposeOfThree", apart := false }
def FnComposeOfThreeSaid : Prop := fnComposeOfThreeRow.holds Try.pinned (OpenSpec.ofChange fnComposeOfThreeSpec)

/-- ITS FALSE NEIGHBOUR: 'it returns false'. Refute it at one input. -/
def fnComposeOfThreeWrong : ChangeSpec := { name := "fnComposeOfThree", fn := fun _ => fun
  | [d] => { results := [.lit (.bool false)], args := [d] }
  | _ => none }
def FnComposeOfThreeWrongFalsely : Prop := fnComposeOfThreeRow.holds Try.pinned (OpenSpec.ofChange fnComposeOfThreeWrong)

/-- 'laws.FnExactValidPoint': WHATEVER THE INPUT: true; the input reads as it did. -/
def fnExactValidPointSpec : ChangeSpec := { name := "fnExactValidPoint", fn := fun _ => fun
  | [d1, d2] => { results := [.lit (.bool true)], args := [d1, d2] }
  | _ => none }
def fnExactValidPointRow : OpenClaim := { program := "ytdkmedlffphmdaa", sum := "a63b0ef43f84db3afd9daa7b33c3673fda87c8a2b78f371d931876f1d4fee72b", func := "loop.example/goboard/laws.FnExactValidPoint", spec := "fnExactValidPoint", apart := false }
def FnExactValidPointSaid : Prop := fnExactValidPointRow.holds Try.pinned (OpenSpec.ofChange fnExactValidPointSpec)

/-- ITS FALSE NEIGHBOUR: 'it returns false'. Refute it at one input. -/
def fnExactValidPointWrong : ChangeSpec := { name := "fnExactValidPoint", fn := fun _ => fun
  | [d1, d2] => { results := [.lit (.bool false)], args := [d1, d2] }
  | _ => none }
def FnExactValidPointWrongFalsely : Prop := fnExactValidPointRow.holds Try.pinned (OpenSpec.ofChange fnExactValidPointWrong)

/-- 'laws.FnExactNeighbors': WHATEVER THE INPUT: true; the input reads as it did. -/
def fnExactNeighborsSpec : ChangeSpec := { name := "fnExactNeighbors", fn := fun _ => fun
  | [d1, d2] => { results := [.lit (.bool true)], args := [d1, d2] }
  | _ => none }
def fnExactNeighborsRow : OpenClaim := { program := "ytdkmedlffphmdaa", sum := "a63b0ef43f84db3afd9daa7b33c3673fda87c8a2b78f371d931876f1d4fee72b", func := "loop.example/goboard/laws.FnExactNeighbors", spec := "fnExactNeighbors", apart := false }
def FnExactNeighborsSaid : Prop := fnExactNeighborsRow.holds Try.pinned (OpenSpec.ofChange fnExactNeighborsSpec)

/-- ITS FALSE NEIGHBOUR: 'it returns false'. Refute it at one input. -/
def fnExactNeighborsWrong : ChangeSpec := { name := "fnExactNeighbors", fn := fun _ => fun
  | [d1, d2] => { results := [.lit (.bool false)], args := [d1, d2] }
  | _ => none }
def FnExactNeighborsWrongFalsely : Prop := fnExactNeighborsRow.holds Try.pinned (OpenSpec.ofChange fnExactNeighborsWrong)

/-- 'laws.FnExactTransformPoint': WHATEVER THE INPUT: true; the input reads as it did. -/
def fnExactTransformPointSpec : ChangeSpec := { name := "fnExactTransformPoint", fn := fun _ => fun
  | [d1, d2, d3] => { results := [.lit (.bool true)], args := [d1, d2, d3] }
  | _ => none }
def fnExactTransformPointRow : OpenClaim := { program := "ytdkmedlffphmdaa", sum := "a63b0ef43f84db3afd9daa7b33c3673fda87c8a2b78f371d931876f1d4fee72b", func := "loop.example/goboard/laws.FnExactTransformPoint", spec := "fnExactTransformPoint", apart := false }
def FnExactTransformPointSaid : Prop := fnExactTransformPointRow.holds Try.pinned (OpenSpec.ofChange fnExactTransformPointSpec)

/-- ITS FALSE NEIGHBOUR: 'it returns false'. Refute it at one input. -/
def fnExactTransformPointWrong : ChangeSpec := { name := "fnExactTransformPoint", fn := fun _ => fun
  | [d1, d2, d3] => { results := [.lit (.bool false)], args := [d1, d2, d3] }
  | _ => none }
def FnExactTransformPointWrongFalsely : Prop := fnExactTransformPointRow.holds Try.pinned (OpenSpec.ofChange fnExactTransformPointWrong)

/-- 'laws.FnExactComposeOf': WHATEVER THE INPUT: true; the input reads as it did. -/
def fnExactComposeOfSpec : ChangeSpec := { name := "fnExactComposeOf", fn := fun _ => fun
  | [d1, d2] => { results := [.lit (.bool true)], args := [d1, d2] }
  | _ => none }
def fnExactComposeOfRow : OpenClaim := { program := "ytdkmedlffphmdaa", sum := "a63b0ef43f84db3afd9daa7b33c3673fda87c8a2b78f371d931876f1d4fee72b", func := "loop.example/goboard/laws.FnExactComposeOf", spec := "fnExactComposeOf", apart := false }
def FnExactComposeOfSaid : Prop := fnExactComposeOfRow.holds Try.pinned (OpenSpec.ofChange fnExactComposeOfSpec)

/-- ITS FALSE NEIGHBOUR: 'it returns false'. Refute it at one input. -/
def fnExactComposeOfWrong : ChangeSpec := { name := "fnExactComposeOf", fn := fun _ => fun
  | [d1, d2] => { results := [.lit (.bool false)], args := [d1, d2] }
  | _ => none }
def FnExactComposeOfWrongFalsely : Prop := fnExactComposeOfRow.holds Try.pinned (OpenSpec.ofChange fnExactComposeOfWrong)

/- THE SECOND FORM. 'bulk': how many values and letters a reading holds, each counted each time it is reached (what is shared counts as often as it is met; a slice's spare places count too). A statement '..UptoSaid' is the law's where the arguments, and the package variables that the reading takes, are together of bulk at most 1048576: NARROWER than '..Said'. Prove '..Said' where nothing that the law and all that it calls make is longer than what came in: it says more and counts as full. Else prove '..UptoSaid'. A law counts once. -/
mutual
def uptoBulk {H : Type} : DataW H → Nat
  | .lit (.string bytes) => bytes.length + 1
  | .lit _ => 1
  | .nil => 1
  | .ptr d => uptoBulk d + 1
  | .slice elems spare => uptoBulkAll elems + uptoBulkAll spare + 1
  | .agg parts => uptoBulkAll parts + 1
  | .iface _ d => uptoBulk d + 1
  | .map entries => uptoBulkEntries entries + 1
  | .held _ => 1
def uptoBulkAll {H : Type} : List (DataW H) → Nat
  | [] => 0
  | d :: r => uptoBulk d + uptoBulkAll r
def uptoBulkEntries {H : Type} : List (Lit × DataW H) → Nat
  | [] => 0
  | x :: r => uptoBulkEntry x + uptoBulkEntries r
def uptoBulkEntry {H : Type} : Lit × DataW H → Nat
  | (.string bytes, d) => bytes.length + uptoBulk d + 1
  | (_, d) => uptoBulk d + 1
 end
def uptoSmall : (H : Type) → List (DataW H) → Bool := fun _ ds => decide (uptoBulkAll ds ≤ 1048576)
def OpenSpec.upto (s : _root_.Go.ChangeSpec) : _root_.Go.OpenSpec := { _root_.Go.OpenSpec.ofChange s with cond := some uptoSmall }

/-- 'laws.FnNeighbors', WHERE WHAT IT READS IS OF BULK AT MOST 1048576: true; the input reads as it did. -/
def fnNeighborsUptoRow : OpenClaim := { program := "ytdkmedlffphmdaa", sum := "a63b0ef43f84db3afd9daa7b33c3673fda87c8a2b78f371d931876f1d4fee72b", func := "loop.example/goboard/laws.FnNeighbors", spec := "fnNeighbors", apart := false, narrowed := true }
def FnNeighborsUptoSaid : Prop := fnNeighborsUptoRow.holds Try.pinned (OpenSpec.upto fnNeighborsSpec)

/-- 'laws.FnNeighborsImage', WHERE WHAT IT READS IS OF BULK AT MOST 1048576: true; the input reads as it did. -/
def fnNeighborsImageUptoRow : OpenClaim := { program := "ytdkmedlffphmdaa", sum := "a63b0ef43f84db3afd9daa7b33c3673fda87c8a2b78f371d931876f1d4fee72b", func := "loop.example/goboard/laws.FnNeighborsImage", spec := "fnNeighborsImage", apart := false, narrowed := true }
def FnNeighborsImageUptoSaid : Prop := fnNeighborsImageUptoRow.holds Try.pinned (OpenSpec.upto fnNeighborsImageSpec)

/-- 'laws.FnTransformPoint', WHERE WHAT IT READS IS OF BULK AT MOST 1048576: true; the input reads as it did. -/
def fnTransformPointUptoRow : OpenClaim := { program := "ytdkmedlffphmdaa", sum := "a63b0ef43f84db3afd9daa7b33c3673fda87c8a2b78f371d931876f1d4fee72b", func := "loop.example/goboard/laws.FnTransformPoint", spec := "fnTransformPoint", apart := false, narrowed := true }
def FnTransformPointUptoSaid : Prop := fnTransformPointUptoRow.holds Try.pinned (OpenSpec.upto fnTransformPointSpec)

/-- 'laws.FnComposeOf', WHERE WHAT IT READS IS OF BULK AT MOST 1048576: true; the input reads as it did. -/
def fnComposeOfUptoRow : OpenClaim := { program := "ytdkmedlffphmdaa", sum := "a63b0ef43f84db3afd9daa7b33c3673fda87c8a2b78f371d931876f1d4fee72b", func := "loop.example/goboard/laws.FnComposeOf", spec := "fnComposeOf", apart := false, narrowed := true }
def FnComposeOfUptoSaid : Prop := fnComposeOfUptoRow.holds Try.pinned (OpenSpec.upto fnComposeOfSpec)

/-- 'laws.FnComposeOfThree', WHERE WHAT IT READS IS OF BULK AT MOST 1048576: true; the input reads as it did. -/
def fnComposeOfThreeUptoRow : OpenClaim := { program := "ytdkmedlffphmdaa", sum := "a63b0ef43f84db3afd9daa7b33c3673fda87c8a2b78f371d931876f1d4fee72b", func := "loop.example/goboard/laws.FnComposeOfThree", spec := "fnComposeOfThree", apart := false, narrowed := true }
def FnComposeOfThreeUptoSaid : Prop := fnComposeOfThreeUptoRow.holds Try.pinned (OpenSpec.upto fnComposeOfThreeSpec)

/-- 'laws.FnExactValidPoint', WHERE WHAT IT READS IS OF BULK AT MOST 1048576: true; the input reads as it did. -/
def fnExactValidPointUptoRow : OpenClaim := { program := "ytdkmedlffphmdaa", sum := "a63b0ef43f84db3afd9daa7b33c3673fda87c8a2b78f371d931876f1d4fee72b", func := "loop.example/goboard/laws.FnExactValidPoint", spec := "fnExactValidPoint", apart := false, narrowed := true }
def FnExactValidPointUptoSaid : Prop := fnExactValidPointUptoRow.holds Try.pinned (OpenSpec.upto fnExactValidPointSpec)

/-- 'laws.FnExactNeighbors', WHERE WHAT IT READS IS OF BULK AT MOST 1048576: true; the input reads as it did. -/
def fnExactNeighborsUptoRow : OpenClaim := { program := "ytdkmedlffphmdaa", sum := "a63b0ef43f84db3afd9daa7b33c3673fda87c8a2b78f371d931876f1d4fee72b", func := "loop.example/goboard/laws.FnExactNeighbors", spec := "fnExactNeighbors", apart := false, narrowed := true }
def FnExactNeighborsUptoSaid : Prop := fnExactNeighborsUptoRow.holds Try.pinned (OpenSpec.upto fnExactNeighborsSpec)

/-- 'laws.FnExactTransformPoint', WHERE WHAT IT READS IS OF BULK AT MOST 1048576: true; the input reads as it did. -/
def fnExactTransformPointUptoRow : OpenClaim := { program := "ytdkmedlffphmdaa", sum := "a63b0ef43f84db3afd9daa7b33c3673fda87c8a2b78f371d931876f1d4fee72b", func := "loop.example/goboard/laws.FnExactTransformPoint", spec := "fnExactTransformPoint", apart := false, narrowed := true }
def FnExactTransformPointUptoSaid : Prop := fnExactTransformPointUptoRow.holds Try.pinned (OpenSpec.upto fnExactTransformPointSpec)

/-- 'laws.FnExactComposeOf', WHERE WHAT IT READS IS OF BULK AT MOST 1048576: true; the input reads as it did. -/
def fnExactComposeOfUptoRow : OpenClaim := { program := "ytdkmedlffphmdaa", sum := "a63b0ef43f84db3afd9daa7b33c3673fda87c8a2b78f371d931876f1d4fee72b", func := "loop.example/goboard/laws.FnExactComposeOf", spec := "fnExactComposeOf", apart := false, narrowed := true }
def FnExactComposeOfUptoSaid : Prop := fnExactComposeOfUptoRow.holds Try.pinned (OpenSpec.upto fnExactComposeOfSpec)

end Rows
end Go.Proofs.Ytdkmedlffphmdaa
