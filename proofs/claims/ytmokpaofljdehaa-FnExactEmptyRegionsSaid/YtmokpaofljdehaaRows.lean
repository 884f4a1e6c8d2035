/-
  No cell of these rows narrows 'for every input' (looked for: loops, veiled, ifaces, maps, wideKeys, modest, calm, conditions, laid).
  DERIVED. THE GIVEN ROWS OF THIS SEAT. 8 by the template 'for every input the law returns true; each argument reads behind the call as it read before'; 0 by the template 'total and deterministic' (their statements: YtmokpaofljdehaaTotals.lean).
  GIVEN WITH THE SEED: the statements are not yours to turn. If you find one false, say at which input.
  Laid BY PROGRAM, IN A SANDBOX (cutbox-rows.mjs): the forced cells as the released guide's own fill.sh prints them over the translation ce3b2c008568a5b3… (all of the seat's roots in one cut). By AI agents, Wed Nov 11 2026. No macro, syntax, notation, axiom, sorry.
-/
import Derived.Test.YtmokpaofljdehaaChecked
import GoSem.Claim
import GoSem.ClaimJoined
import GoSem.ClaimMapViews
import Derived.JoinedTies
import Derived.KernelRfl
namespace Go.Proofs.Ytmokpaofljdehaa
/- THE CELL 'sum', in the pinned program and in every row, IS THE sha256 OF THE DUMP (.gsa) THAT YtmokpaofljdehaaProg.lean LOADS. Nothing in Lean hashes anything: it is a label: what it is worth is what the hold of that sum in a sandbox is worth. -/
noncomputable def Try.pinned : Pinned := { name := "ytmokpaofljdehaa", sum := "ce3b2c008568a5b3a684cdd861b3aa3164bcfa95c1bb24a8fd1487d4d8d200fa", checked := Try.checked }
namespace Rows
def none {H : Type} : Left H := { results := [], args := [] }

/-- 'laws.FnExactValidTask': WHATEVER THE INPUT: true; the input reads as it did. -/
def fnExactValidTaskSpec : ChangeSpec := { name := "fnExactValidTask", fn := fun _ => fun
  | [d] => { results := [.lit (.bool true)], args := [d] }
  | _ => none }
def fnExactValidTaskRow : OpenClaim := { program := "ytmokpaofljdehaa", sum := "ce3b2c008568a5b3a684cdd861b3aa3164bcfa95c1bb24a8fd1487d4d8d200fa", func := "loop.example/goboard/laws.FnExactValidTask", spec := "fnExactValidTask", apart := false }
def FnExactValidTaskSaid : Prop := fnExactValidTaskRow.holds Try.pinned (OpenSpec.ofChange fnExactValidTaskSpec)

/-- ITS FALSE NEIGHBOUR: 'it returns false'. Refute it at one input. -/
def fnExactValidTaskWrong : ChangeSpec := { name := "fnExactValidTask", fn := fun _ => fun
  | [d] => { results := [.lit (.bool false)], args := [d] }
  | _ => none }
def FnExactValidTaskWrongFalsely : Prop := fnExactValidTaskRow.holds Try.pinned (OpenSpec.ofChange fnExactValidTaskWrong)

/-- 'laws.FnValidTask': WHATEVER THE INPUT: true; the input reads as it did. -/
def fnValidTaskSpec : ChangeSpec := { name := "fnValidTask", fn := fun _ => fun
  | [d] => { results := [.lit (.bool true)], args := [d] }
  | _ => none }
def fnValidTaskRow : OpenClaim := { program := "ytmokpaofljdehaa", sum := "ce3b2c008568a5b3a684cdd861b3aa3164bcfa95c1bb24a8fd1487d4d8d200fa", func := "loop.example/goboard/laws.FnValidTask", spec := "fnValidTask", apart := false }
def FnValidTaskSaid : Prop := fnValidTaskRow.holds Try.pinned (OpenSpec.ofChange fnValidTaskSpec)

/-- ITS FALSE NEIGHBOUR: 'it returns false'. Refute it at one input. -/
def fnValidTaskWrong : ChangeSpec := { name := "fnValidTask", fn := fun _ => fun
  | [d] => { results := [.lit (.bool false)], args := [d] }
  | _ => none }
def FnValidTaskWrongFalsely : Prop := fnValidTaskRow.holds Try.pinned (OpenSpec.ofChange fnValidTaskWrong)

/-- 'laws.FnExactRemoveDead': WHATEVER THE INPUT: true; the input reads as it did. -/
def fnExactRemoveDeadSpec : ChangeSpec := { name := "fnExactRemoveDead", fn := fun _ => fun
  | [d1, d2] => { results := [.lit (.bool true)], args := [d1, d2] }
  | _ => none }
def fnExactRemoveDeadRow : OpenClaim := { program := "ytmokpaofljdehaa", sum := "ce3b2c008568a5b3a684cdd861b3aa3164bcfa95c1bb24a8fd1487d4d8d200fa", func := "loop.example/goboard/laws.FnExactRemoveDead", spec := "fnExactRemoveDead", apart := false }
def FnExactRemoveDeadSaid : Prop := fnExactRemoveDeadRow.holds Try.pinned (OpenSpec.ofChange fnExactRemoveDeadSpec)

/-- ITS FALSE NEIGHBOUR: 'it returns false'. Refute it at one input. -/
def fnExactRemoveDeadWrong : ChangeSpec := { name := "fnExactRemoveDead", fn := fun _ => fun
  | [d1, d2] => { results := [.lit (.bool false)], args := [d1, d2] }
  | _ => none }
def FnExactRemoveDeadWrongFalsely : Prop := fnExactRemoveDeadRow.holds Try.pinned (OpenSpec.ofChange fnExactRemoveDeadWrong)

/-- 'laws.FnRemoveDead': WHATEVER THE INPUT: true; the input reads as it did. -/
def fnRemoveDeadSpec : ChangeSpec := { name := "fnRemoveDead", fn := fun _ => fun
  | [d] => { results := [.lit (.bool true)], args := [d] }
  | _ => none }
def fnRemoveDeadRow : OpenClaim := { program := "ytmokpaofljdehaa", sum := "ce3b2c008568a5b3a684cdd861b3aa3164bcfa95c1bb24a8fd1487d4d8d200fa", func := "loop.example/goboard/laws.FnRemoveDead", spec := "fnRemoveDead", apart := false }
def FnRemoveDeadSaid : Prop := fnRemoveDeadRow.holds Try.pinned (OpenSpec.ofChange fnRemoveDeadSpec)

/-- ITS FALSE NEIGHBOUR: 'it returns false'. Refute it at one input. -/
def fnRemoveDeadWrong : ChangeSpec := { name := "fnRemoveDead", fn := fun _ => fun
  | [d] => { results := [.lit (.bool false)], args := [d] }
  | _ => none }
def FnRemoveDeadWrongFalsely : Prop := fnRemoveDeadRow.holds Try.pinned (OpenSpec.ofChange fnRemoveDeadWrong)

/-- 'laws.FnExactParseBoard': WHATEVER THE INPUT: true; the input reads as it did. -/
def fnExactParseBoardSpec : ChangeSpec := { name := "fnExactParseBoard", fn := fun _ => fun
  | [d] => { results := [.lit (.bool true)], args := [d] }
  | _ => none }
def fnExactParseBoardRow : OpenClaim := { program := "ytmokpaofljdehaa", sum := "ce3b2c008568a5b3a684cdd861b3aa3164bcfa95c1bb24a8fd1487d4d8d200fa", func := "loop.example/goboard/laws.FnExactParseBoard", spec := "fnExactParseBoard", inPlace := ["internal/bytealg.IndexByteString"], apart := false }
def FnExactParseBoardSaid : Prop := fnExactParseBoardRow.holds Try.pinned (OpenSpec.ofChange fnExactParseBoardSpec)

/-- ITS FALSE NEIGHBOUR: 'it returns false'. Refute it at one input. -/
def fnExactParseBoardWrong : ChangeSpec := { name := "fnExactParseBoard", fn := fun _ => fun
  | [d] => { results := [.lit (.bool false)], args := [d] }
  | _ => none }
def FnExactParseBoardWrongFalsely : Prop := fnExactParseBoardRow.holds Try.pinned (OpenSpec.ofChange fnExactParseBoardWrong)

/-- 'laws.FnBoardRoundTrip': WHATEVER THE INPUT: true; the input reads as it did. -/
def fnBoardRoundTripSpec : ChangeSpec := { name := "fnBoardRoundTrip", fn := fun _ => fun
  | [d] => { results := [.lit (.bool true)], args := [d] }
  | _ => none }
def fnBoardRoundTripRow : OpenClaim := { program := "ytmokpaofljdehaa", sum := "ce3b2c008568a5b3a684cdd861b3aa3164bcfa95c1bb24a8fd1487d4d8d200fa", func := "loop.example/goboard/laws.FnBoardRoundTrip", spec := "fnBoardRoundTrip", inPlace := ["internal/abi.NoEscape", "internal/bytealg.IndexByteString"], apart := false }
def FnBoardRoundTripSaid : Prop := fnBoardRoundTripRow.holds Try.pinned (OpenSpec.ofChange fnBoardRoundTripSpec)

/-- ITS FALSE NEIGHBOUR: 'it returns false'. Refute it at one input. -/
def fnBoardRoundTripWrong : ChangeSpec := { name := "fnBoardRoundTrip", fn := fun _ => fun
  | [d] => { results := [.lit (.bool false)], args := [d] }
  | _ => none }
def FnBoardRoundTripWrongFalsely : Prop := fnBoardRoundTripRow.holds Try.pinned (OpenSpec.ofChange fnBoardRoundTripWrong)

/-- 'laws.FnBoardCanonical': WHATEVER THE INPUT: true; the input reads as it did. -/
def fnBoardCanonicalSpec : ChangeSpec := { name := "fnBoardCanonical", fn := fun _ => fun
  | [d] => { results := [.lit (.bool true)], args := [d] }
  | _ => none }
def fnBoardCanonicalRow : OpenClaim := { program := "ytmokpaofljdehaa", sum := "ce3b2c008568a5b3a684cdd861b3aa3164bcfa95c1bb24a8fd1487d4d8d200fa", func := "loop.example/goboard/laws.FnBoardCanonical", spec := "fnBoardCanonical", inPlace := ["internal/bytealg.IndexByteString", "internal/abi.NoEscape"], apart := false }
def FnBoardCanonicalSaid : Prop := fnBoardCanonicalRow.holds Try.pinned (OpenSpec.ofChange fnBoardCanonicalSpec)

/-- ITS FALSE NEIGHBOUR: 'it returns false'. Refute it at one input. -/
def fnBoardCanonicalWrong : ChangeSpec := { name := "fnBoardCanonical", fn := fun _ => fun
  | [d] => { results := [.lit (.bool false)], args := [d] }
  | _ => none }
def FnBoardCanonicalWrongFalsely : Prop := fnBoardCanonicalRow.holds Try.pinned (OpenSpec.ofChange fnBoardCanonicalWrong)

/-- 'laws.FnExactEmptyRegions': WHATEVER THE INPUT: true; the input reads as it did. -/
def fnExactEmptyRegionsSpec : ChangeSpec := { name := "fnExactEmptyRegions", fn := fun _ => fun
  | [d] => { results := [.lit (.bool true)], args := [d] }
  | _ => none }
def fnExactEmptyRegionsRow : OpenClaim := { program := "ytmokpaofljdehaa", sum := "ce3b2c008568a5b3a684cdd861b3aa3164bcfa95c1bb24a8fd1487d4d8d200fa", func := "loop.example/goboard/laws.FnExactEmptyRegions", spec := "fnExactEmptyRegions", unfollowed := true, recurses := true, apart := false }
def FnExactEmptyRegionsSaid : Prop := fnExactEmptyRegionsRow.holds Try.pinned (OpenSpec.ofChange fnExactEmptyRegionsSpec)

/-- ITS FALSE NEIGHBOUR: 'it returns false'. Refute it at one input. -/
def fnExactEmptyRegionsWrong : ChangeSpec := { name := "fnExactEmptyRegions", fn := fun _ => fun
  | [d] => { results := [.lit (.bool false)], args := [d] }
  | _ => none }
def FnExactEmptyRegionsWrongFalsely : Prop := fnExactEmptyRegionsRow.holds Try.pinned (OpenSpec.ofChange fnExactEmptyRegionsWrong)

/- THE SECOND FORM. 'bulk': how many values and letters a reading holds, each counted each time it is reached (what is shared counts as often as it is met; a slice's spare places count too). A statement '..UptoSaid' is the law's where the arguments, and the package variables that the reading takes, are together of bulk at most 1048576: NARROWER than '..Said'. Prove '..Said' where nothing that the law and all that it calls make is longer than what came in: it says more and counts as full. Else prove '..UptoSaid'. A law counts once. -/
mutual
def uptoBulk {H : Type} : DataW H → Nat
  | .lit (.string bytes) => bytes.length + 1
  | .lit _ => 1
  | .nil => 1
  | .ptr d => uptoBulk d + 1
  | .slice elems spare => uptoBulkAll elems + uptoBulkAll spare + 1
  | .agg parts => uptoBulkAll parts + 1
  | .iface _ d => uptoBulk d + 1
  | .map entries => uptoBulkEntries entries + 1
  | .held _ => 1
def uptoBulkAll {H : Type} : List (DataW H) → Nat
  | [] => 0
  | d :: r => uptoBulk d + uptoBulkAll r
def uptoBulkEntries {H : Type} : List (Lit × DataW H) → Nat
  | [] => 0
  | x :: r => uptoBulkEntry x + uptoBulkEntries r
def uptoBulkEntry {H : Type} : Lit × DataW H → Nat
  | (.string bytes, d) => bytes.length + uptoBulk d + 1
  | (_, d) => uptoBulk d + 1
 end
def uptoSmall : (H : Type) → List (DataW H) → Bool := fun _ ds => decide (uptoBulkAll ds ≤ 1048576)
def OpenSpec.upto (s : _root_.Go.ChangeSpec) : _root_.Go.OpenSpec := { _root_.Go.OpenSpec.ofChange s with cond := some uptoSmall }

/-- 'laws.FnExactValidTask', WHERE WHAT IT READS IS OF BULK AT MOST 1048576: true; the input reads as it did. -/
def fnExactValidTaskUptoRow : OpenClaim := { program := "ytmokpaofljdehaa", sum := "ce3b2c008568a5b3a684cdd861b3aa3164bcfa95c1bb24a8fd1487d4d8d200fa", func := "loop.example/goboard/laws.FnExactValidTask", spec := "fnExactValidTask", apart := false, narrowed := true }
def FnExactValidTaskUptoSaid : Prop := fnExactValidTaskUptoRow.holds Try.pinned (OpenSpec.upto fnExactValidTaskSpec)

/-- 'laws.FnValidTask', WHERE WHAT IT READS IS OF BULK AT MOST 1048576: true; the input reads as it did. -/
def fnValidTaskUptoRow : OpenClaim := { program := "ytmokpaofljdehaa", sum := "ce3b2c008568a5b3a684cdd861b3aa3164bcfa95c1bb24a8fd1487d4d8d200fa", func := "loop.example/goboard/laws.FnValidTask", spec := "fnValidTask", apart := false, narrowed := true }
def FnValidTaskUptoSaid : Prop := fnValidTaskUptoRow.holds Try.pinned (OpenSpec.upto fnValidTaskSpec)

/-- 'laws.FnExactRemoveDead', WHERE WHAT IT READS IS OF BULK AT MOST 1048576: true; the input reads as it did. -/
def fnExactRemoveDeadUptoRow : OpenClaim := { program := "ytmokpaofljdehaa", sum := "ce3b2c008568a5b3a684cdd861b3aa3164bcfa95c1bb24a8fd1487d4d8d200fa", func := "loop.example/goboard/laws.FnExactRemoveDead", spec := "fnExactRemoveDead", apart := false, narrowed := true }
def FnExactRemoveDeadUptoSaid : Prop := fnExactRemoveDeadUptoRow.holds Try.pinned (OpenSpec.upto fnExactRemoveDeadSpec)

/-- 'laws.FnRemoveDead', WHERE WHAT IT READS IS OF BULK AT MOST 1048576: true; the input reads as it did. -/
def fnRemoveDeadUptoRow : OpenClaim := { program := "ytmokpaofljdehaa", sum := "ce3b2c008568a5b3a684cdd861b3aa3164bcfa95c1bb24a8fd1487d4d8d200fa", func := "loop.example/goboard/laws.FnRemoveDead", spec := "fnRemoveDead", apart := false, narrowed := true }
def FnRemoveDeadUptoSaid : Prop := fnRemoveDeadUptoRow.holds Try.pinned (OpenSpec.upto fnRemoveDeadSpec)

/-- 'laws.FnExactParseBoard', WHERE WHAT IT READS IS OF BULK AT MOST 1048576: true; the input reads as it did. -/
def fnExactParseBoardUptoRow : OpenClaim := { program := "ytmokpaofljdehaa", sum := "ce3b2c008568a5b3a684cdd861b3aa3164bcfa95c1bb24a8fd1487d4d8d200fa", func := "loop.example/goboard/laws.FnExactParseBoard", spec := "fnExactParseBoard", inPlace := ["internal/bytealg.IndexByteString"], apart := false, narrowed := true }
def FnExactParseBoardUptoSaid : Prop := fnExactParseBoardUptoRow.holds Try.pinned (OpenSpec.upto fnExactParseBoardSpec)

/-- 'laws.FnBoardRoundTrip', WHERE WHAT IT READS IS OF BULK AT MOST 1048576: true; the input reads as it did. -/
def fnBoardRoundTripUptoRow : OpenClaim := { program := "ytmokpaofljdehaa", sum := "ce3b2c008568a5b3a684cdd861b3aa3164bcfa95c1bb24a8fd1487d4d8d200fa", func := "loop.example/goboard/laws.FnBoardRoundTrip", spec := "fnBoardRoundTrip", inPlace := ["internal/abi.NoEscape", "internal/bytealg.IndexByteString"], apart := false, narrowed := true }
def FnBoardRoundTripUptoSaid : Prop := fnBoardRoundTripUptoRow.holds Try.pinned (OpenSpec.upto fnBoardRoundTripSpec)

/-- 'laws.FnBoardCanonical', WHERE WHAT IT READS IS OF BULK AT MOST 1048576: true; the input reads as it did. -/
def fnBoardCanonicalUptoRow : OpenClaim := { program := "ytmokpaofljdehaa", sum := "ce3b2c008568a5b3a684cdd861b3aa3164bcfa95c1bb24a8fd1487d4d8d200fa", func := "loop.example/goboard/laws.FnBoardCanonical", spec := "fnBoardCanonical", inPlace := ["internal/bytealg.IndexByteString", "internal/abi.NoEscape"], apart := false, narrowed := true }
def FnBoardCanonicalUptoSaid : Prop := fnBoardCanonicalUptoRow.holds Try.pinned (OpenSpec.upto fnBoardCanonicalSpec)

/-- 'laws.FnExactEmptyRegions', WHERE WHAT IT READS IS OF BULK AT MOST 1048576: true; the input reads as it did. -/
def fnExactEmptyRegionsUptoRow : OpenClaim := { program := "ytmokpaofljdehaa", sum := "ce3b2c008568a5b3a684cdd861b3aa3164bcfa95c1bb24a8fd1487d4d8d200fa", func := "loop.example/goboard/laws.FnExactEmptyRegions", spec := "fnExactEmptyRegions", unfollowed := true, recurses := true, apart := false, narrowed := true }
def FnExactEmptyRegionsUptoSaid : Prop := fnExactEmptyRegionsUptoRow.holds Try.pinned (OpenSpec.upto fnExactEmptyRegionsSpec)

end Rows
end Go.Proofs.Ytmokpaofljdehaa
