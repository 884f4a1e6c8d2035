/-
  No cell of these rows narrows 'for every input' (looked for: loops, veiled, ifaces, maps, wideKeys, modest, calm, conditions, laid).
  DERIVED. THE GIVEN ROWS OF THIS SEAT. 12 by the template 'for every input the law returns true; each argument reads behind the call as it read before'; 0 by the template 'total and deterministic' (their statements: YtkomndekiilbpaaTotals.lean).
  GIVEN WITH THE SEED: the statements are not yours to turn. If you find one false, say at which input.
  Laid BY PROGRAM, IN A SANDBOX (cutbox-rows.mjs): the forced cells as the released guide's own fill.sh prints them over the translation d0f996a1eef26977… (all of the seat's roots in one cut). By AI agents, Wed Nov 11 2026. No macro, syntax, notation, axiom, sorry.
-/
import Derived.Test.YtkomndekiilbpaaChecked
import GoSem.Claim
import GoSem.ClaimJoined
import GoSem.ClaimMapViews
import Derived.JoinedTies
import Derived.KernelRfl
namespace Go.Proofs.Ytkomndekiilbpaa
/- THE CELL 'sum', in the pinned program and in every row, IS THE sha256 OF THE DUMP (.gsa) THAT YtkomndekiilbpaaProg.lean LOADS. Nothing in Lean hashes anything: it is a label: what it is worth is what the hold of that sum in a sandbox is worth. -/
noncomputable def Try.pinned : Pinned := { name := "ytkomndekiilbpaa", sum := "d0f996a1eef26977e4275226cec5aac677c59389c5c0187a063d5674d4c207f5", checked := Try.checked }
namespace Rows
def none {H : Type} : Left H := { results := [], args := [] }

/-- 'laws.FnSetStone': WHATEVER THE INPUT: true; the input reads as it did. -/
def fnSetStoneSpec : ChangeSpec := { name := "fnSetStone", fn := fun _ => fun
  | [d] => { results := [.lit (.bool true)], args := [d] }
  | _ => none }
def fnSetStoneRow : OpenClaim := { program := "ytkomndekiilbpaa", sum := "d0f996a1eef26977e4275226cec5aac677c59389c5c0187a063d5674d4c207f5", func := "loop.example/goboard/laws.FnSetStone", spec := "fnSetStone", apart := false }
def FnSetStoneSaid : Prop := fnSetStoneRow.holds Try.pinned (OpenSpec.ofChange fnSetStoneSpec)

/-- ITS FALSE NEIGHBOUR: 'it returns false'. Refute it at one input. -/
def fnSetStoneWrong : ChangeSpec := { name := "fnSetStone", fn := fun _ => fun
  | [d] => { results := [.lit (.bool false)], args := [d] }
  | _ => none }
def FnSetStoneWrongFalsely : Prop := fnSetStoneRow.holds Try.pinned (OpenSpec.ofChange fnSetStoneWrong)

/-- 'laws.FnSetStoneTwice': WHATEVER THE INPUT: true; the input reads as it did. -/
def fnSetStoneTwiceSpec : ChangeSpec := { name := "fnSetStoneTwice", fn := fun _ => fun
  | [d] => { results := [.lit (.bool true)], args := [d] }
  | _ => none }
def fnSetStoneTwiceRow : OpenClaim := { program := "ytkomndekiilbpaa", sum := "d0f996a1eef26977e4275226cec5aac677c59389c5c0187a063d5674d4c207f5", func := "loop.example/goboard/laws.FnSetStoneTwice", spec := "fnSetStoneTwice", apart := false }
def FnSetStoneTwiceSaid : Prop := fnSetStoneTwiceRow.holds Try.pinned (OpenSpec.ofChange fnSetStoneTwiceSpec)

/-- ITS FALSE NEIGHBOUR: 'it returns false'. Refute it at one input. -/
def fnSetStoneTwiceWrong : ChangeSpec := { name := "fnSetStoneTwice", fn := fun _ => fun
  | [d] => { results := [.lit (.bool false)], args := [d] }
  | _ => none }
def FnSetStoneTwiceWrongFalsely : Prop := fnSetStoneTwiceRow.holds Try.pinned (OpenSpec.ofChange fnSetStoneTwiceWrong)

/-- 'laws.FnCountStones': WHATEVER THE INPUT: true; the input reads as it did. -/
def fnCountStonesSpec : ChangeSpec := { name := "fnCountStones", fn := fun _ => fun
  | [d] => { results := [.lit (.bool true)], args := [d] }
  | _ => none }
def fnCountStonesRow : OpenClaim := { program := "ytkomndekiilbpaa", sum := "d0f996a1eef26977e4275226cec5aac677c59389c5c0187a063d5674d4c207f5", func := "loop.example/goboard/laws.FnCountStones", spec := "fnCountStones", apart := false }
def FnCountStonesSaid : Prop := fnCountStonesRow.holds Try.pinned (OpenSpec.ofChange fnCountStonesSpec)

/-- ITS FALSE NEIGHBOUR: 'it returns false'. Refute it at one input. -/
def fnCountStonesWrong : ChangeSpec := { name := "fnCountStones", fn := fun _ => fun
  | [d] => { results := [.lit (.bool false)], args := [d] }
  | _ => none }
def FnCountStonesWrongFalsely : Prop := fnCountStonesRow.holds Try.pinned (OpenSpec.ofChange fnCountStonesWrong)

/-- 'laws.FnInvertBoard': WHATEVER THE INPUT: true; the input reads as it did. -/
def fnInvertBoardSpec : ChangeSpec := { name := "fnInvertBoard", fn := fun _ => fun
  | [d] => { results := [.lit (.bool true)], args := [d] }
  | _ => none }
def fnInvertBoardRow : OpenClaim := { program := "ytkomndekiilbpaa", sum := "d0f996a1eef26977e4275226cec5aac677c59389c5c0187a063d5674d4c207f5", func := "loop.example/goboard/laws.FnInvertBoard", spec := "fnInvertBoard", apart := false }
def FnInvertBoardSaid : Prop := fnInvertBoardRow.holds Try.pinned (OpenSpec.ofChange fnInvertBoardSpec)

/-- ITS FALSE NEIGHBOUR: 'it returns false'. Refute it at one input. -/
def fnInvertBoardWrong : ChangeSpec := { name := "fnInvertBoard", fn := fun _ => fun
  | [d] => { results := [.lit (.bool false)], args := [d] }
  | _ => none }
def FnInvertBoardWrongFalsely : Prop := fnInvertBoardRow.holds Try.pinned (OpenSpec.ofChange fnInvertBoardWrong)

/-- 'laws.FnTransformBoard': WHATEVER THE INPUT: true; the input reads as it did. -/
def fnTransformBoardSpec : ChangeSpec := { name := "fnTransformBoard", fn := fun _ => fun
  | [d] => { results := [.lit (.bool true)], args := [d] }
  | _ => none }
def fnTransformBoardRow : OpenClaim := { program := "ytkomndekiilbpaa", sum := "d0f996a1eef26977e4275226cec5aac677c59389c5c0187a063d5674d4c207f5", func := "loop.example/goboard/laws.FnTransformBoard", spec := "fnTransformBoard", apart := false }
def FnTransformBoardSaid : Prop := fnTransformBoardRow.holds Try.pinned (OpenSpec.ofChange fnTransformBoardSpec)

/-- ITS FALSE NEIGHBOUR: 'it returns false'. Refute it at one input. -/
def fnTransformBoardWrong : ChangeSpec := { name := "fnTransformBoard", fn := fun _ => fun
  | [d] => { results := [.lit (.bool false)], args := [d] }
  | _ => none }
def FnTransformBoardWrongFalsely : Prop := fnTransformBoardRow.holds Try.pinned (OpenSpec.ofChange fnTransformBoardWrong)

/-- 'laws.FnTransformBoardTwice': WHATEVER THE INPUT: true; the input reads as it did. -/
def fnTransformBoardTwiceSpec : ChangeSpec := { name := "fnTransformBoardTwice", fn := fun _ => fun
  | [d] => { results := [.lit (.bool true)], args := [d] }
  | _ => none }
def fnTransformBoardTwiceRow : OpenClaim := { program := "ytkomndekiilbpaa", sum := "d0f996a1eef26977e4275226cec5aac677c59389c5c0187a063d5674d4c207f5", func := "loop.example/goboard/laws.FnTransformBoardTwice", spec := "fnTransformBoardTwice", apart := false }
def FnTransformBoardTwiceSaid : Prop := fnTransformBoardTwiceRow.holds Try.pinned (OpenSpec.ofChange fnTransformBoardTwiceSpec)

/-- ITS FALSE NEIGHBOUR: 'it returns false'. Refute it at one input. -/
def fnTransformBoardTwiceWrong : ChangeSpec := { name := "fnTransformBoardTwice", fn := fun _ => fun
  | [d] => { results := [.lit (.bool false)], args := [d] }
  | _ => none }
def FnTransformBoardTwiceWrongFalsely : Prop := fnTransformBoardTwiceRow.holds Try.pinned (OpenSpec.ofChange fnTransformBoardTwiceWrong)

/-- 'laws.FnCanonicalBoard': WHATEVER THE INPUT: true; the input reads as it did. -/
def fnCanonicalBoardSpec : ChangeSpec := { name := "fnCanonicalBoard", fn := fun _ => fun
  | [d] => { results := [.lit (.bool true)], args := [d] }
  | _ => none }
def fnCanonicalBoardRow : OpenClaim := { program := "ytkomndekiilbpaa", sum := "d0f996a1eef26977e4275226cec5aac677c59389c5c0187a063d5674d4c207f5", func := "loop.example/goboard/laws.FnCanonicalBoard", spec := "fnCanonicalBoard", apart := false }
def FnCanonicalBoardSaid : Prop := fnCanonicalBoardRow.holds Try.pinned (OpenSpec.ofChange fnCanonicalBoardSpec)

/-- ITS FALSE NEIGHBOUR: 'it returns false'. Refute it at one input. -/
def fnCanonicalBoardWrong : ChangeSpec := { name := "fnCanonicalBoard", fn := fun _ => fun
  | [d] => { results := [.lit (.bool false)], args := [d] }
  | _ => none }
def FnCanonicalBoardWrongFalsely : Prop := fnCanonicalBoardRow.holds Try.pinned (OpenSpec.ofChange fnCanonicalBoardWrong)

/-- 'laws.FnExactCanonicalBoard': WHATEVER THE INPUT: true; the input reads as it did. -/
def fnExactCanonicalBoardSpec : ChangeSpec := { name := "fnExactCanonicalBoard", fn := fun _ => fun
  | [d] => { results := [.lit (.bool true)], args := [d] }
  | _ => none }
def fnExactCanonicalBoardRow : OpenClaim := { program := "ytkomndekiilbpaa", sum := "d0f996a1eef26977e4275226cec5aac677c59389c5c0187a063d5674d4c207f5", func := "loop.example/goboard/laws.FnExactCanonicalBoard", spec := "fnExactCanonicalBoard", apart := false }
def FnExactCanonicalBoardSaid : Prop := fnExactCanonicalBoardRow.holds Try.pinned (OpenSpec.ofChange fnExactCanonicalBoardSpec)

/-- ITS FALSE NEIGHBOUR: 'it returns false'. Refute it at one input. -/
def fnExactCanonicalBoardWrong : ChangeSpec := { name := "fnExactCanonicalBoard", fn := fun _ => fun
  | [d] => { results := [.lit (.bool false)], args := [d] }
  | _ => none }
def FnExactCanonicalBoardWrongFalsely : Prop := fnExactCanonicalBoardRow.holds Try.pinned (OpenSpec.ofChange fnExactCanonicalBoardWrong)

/-- 'laws.FnBoardRoundTrip': WHATEVER THE INPUT: true; the input reads as it did. -/
def fnBoardRoundTripSpec : ChangeSpec := { name := "fnBoardRoundTrip", fn := fun _ => fun
  | [d] => { results := [.lit (.bool true)], args := [d] }
  | _ => none }
def fnBoardRoundTripRow : OpenClaim := { program := "ytkomndekiilbpaa", sum := "d0f996a1eef26977e4275226cec5aac677c59389c5c0187a063d5674d4c207f5", func := "loop.example/goboard/laws.FnBoardRoundTrip", spec := "fnBoardRoundTrip", inPlace := ["internal/abi.NoEscape", "internal/bytealg.IndexByteString"], apart := false }
def FnBoardRoundTripSaid : Prop := fnBoardRoundTripRow.holds Try.pinned (OpenSpec.ofChange fnBoardRoundTripSpec)

/-- ITS FALSE NEIGHBOUR: 'it returns false'. Refute it at one input. -/
def fnBoardRoundTripWrong : ChangeSpec := { name := "fnBoardRoundTrip", fn := fun _ => fun
  | [d] => { results := [.lit (.bool false)], args := [d] }
  | _ => none }
def FnBoardRoundTripWrongFalsely : Prop := fnBoardRoundTripRow.holds Try.pinned (OpenSpec.ofChange fnBoardRoundTripWrong)

/-- 'laws.FnBoardCanonical': WHATEVER THE INPUT: true; the input reads as it did. -/
def fnBoardCanonicalSpec : ChangeSpec := { name := "fnBoardCanonical", fn := fun _ => fun
  | [d] => { results := [.lit (.bool true)], args := [d] }
  | _ => none }
def fnBoardCanonicalRow : OpenClaim := { program := "ytkomndekiilbpaa", sum := "d0f996a1eef26977e4275226cec5aac677c59389c5c0187a063d5674d4c207f5", func := "loop.example/goboard/laws.FnBoardCanonical", spec := "fnBoardCanonical", inPlace := ["internal/bytealg.IndexByteString", "internal/abi.NoEscape"], apart := false }
def FnBoardCanonicalSaid : Prop := fnBoardCanonicalRow.holds Try.pinned (OpenSpec.ofChange fnBoardCanonicalSpec)

/-- ITS FALSE NEIGHBOUR: 'it returns false'. Refute it at one input. -/
def fnBoardCanonicalWrong : ChangeSpec := { name := "fnBoardCanonical", fn := fun _ => fun
  | [d] => { results := [.lit (.bool false)], args := [d] }
  | _ => none }
def FnBoardCanonicalWrongFalsely : Prop := fnBoardCanonicalRow.holds Try.pinned (OpenSpec.ofChange fnBoardCanonicalWrong)

/-- 'laws.FnExactFormatBoard': WHATEVER THE INPUT: true; the input reads as it did. -/
def fnExactFormatBoardSpec : ChangeSpec := { name := "fnExactFormatBoard", fn := fun _ => fun
  | [d] => { results := [.lit (.bool true)], args := [d] }
  | _ => none }
def fnExactFormatBoardRow : OpenClaim := { program := "ytkomndekiilbpaa", sum := "d0f996a1eef26977e4275226cec5aac677c59389c5c0187a063d5674d4c207f5", func := "loop.example/goboard/laws.FnExactFormatBoard", spec := "fnExactFormatBoard", inPlace := ["internal/abi.NoEscape"], apart := false }
def FnExactFormatBoardSaid : Prop := fnExactFormatBoardRow.holds Try.pinned (OpenSpec.ofChange fnExactFormatBoardSpec)

/-- ITS FALSE NEIGHBOUR: 'it returns false'. Refute it at one input. -/
def fnExactFormatBoardWrong : ChangeSpec := { name := "fnExactFormatBoard", fn := fun _ => fun
  | [d] => { results := [.lit (.bool false)], args := [d] }
  | _ => none }
def FnExactFormatBoardWrongFalsely : Prop := fnExactFormatBoardRow.holds Try.pinned (OpenSpec.ofChange fnExactFormatBoardWrong)

/-- 'laws.FnExactParseBoard': WHATEVER THE INPUT: true; the input reads as it did. -/
def fnExactParseBoardSpec : ChangeSpec := { name := "fnExactParseBoard", fn := fun _ => fun
  | [d] => { results := [.lit (.bool true)], args := [d] }
  | _ => none }
def fnExactParseBoardRow : OpenClaim := { program := "ytkomndekiilbpaa", sum := "d0f996a1eef26977e4275226cec5aac677c59389c5c0187a063d5674d4c207f5", func := "loop.example/goboard/laws.FnExactParseBoard", spec := "fnExactParseBoard", inPlace := ["internal/bytealg.IndexByteString"], apart := false }
def FnExactParseBoardSaid : Prop := fnExactParseBoardRow.holds Try.pinned (OpenSpec.ofChange fnExactParseBoardSpec)

/-- ITS FALSE NEIGHBOUR: 'it returns false'. Refute it at one input. -/
def fnExactParseBoardWrong : ChangeSpec := { name := "fnExactParseBoard", fn := fun _ => fun
  | [d] => { results := [.lit (.bool false)], args := [d] }
  | _ => none }
def FnExactParseBoardWrongFalsely : Prop := fnExactParseBoardRow.holds Try.pinned (OpenSpec.ofChange fnExactParseBoardWrong)

/- THE SECOND FORM. 'bulk': how many values and letters a reading holds, each counted each time it is reached (what is shared counts as often as it is met; a slice's spare places count too). A statement '..UptoSaid' is the law's where the arguments, and the package variables that the reading takes, are together of bulk at most 1048576: NARROWER than '..Said'. Prove '..Said' where nothing that the law and all that it calls make is longer than what came in: it says more and counts as full. Else prove '..UptoSaid'. A law counts once. -/
mutual
def uptoBulk {H : Type} : DataW H → Nat
  | .lit (.string bytes) => bytes.length + 1
  | .lit _ => 1
  | .nil => 1
  | .ptr d => uptoBulk d + 1
  | .slice elems spare => uptoBulkAll elems + uptoBulkAll spare + 1
  | .agg parts => uptoBulkAll parts + 1
  | .iface _ d => uptoBulk d + 1
  | .map entries => uptoBulkEntries entries + 1
  | .held _ => 1
def uptoBulkAll {H : Type} : List (DataW H) → Nat
  | [] => 0
  | d :: r => uptoBulk d + uptoBulkAll r
def uptoBulkEntries {H : Type} : List (Lit × DataW H) → Nat
  | [] => 0
  | x :: r => uptoBulkEntry x + uptoBulkEntries r
def uptoBulkEntry {H : Type} : Lit × DataW H → Nat
  | (.string bytes, d) => bytes.length + uptoBulk d + 1
  | (_, d) => uptoBulk d + 1
 end
def uptoSmall : (H : Type) → List (DataW H) → Bool := fun _ ds => decide (uptoBulkAll ds ≤ 1048576)
def OpenSpec.upto (s : _root_.Go.ChangeSpec) : _root_.Go.OpenSpec := { _root_.Go.OpenSpec.ofChange s with cond := some uptoSmall }

/-- 'laws.FnSetStone', WHERE WHAT IT READS IS OF BULK AT MOST 1048576: true; the input reads as it did. -/
def fnSetStoneUptoRow : OpenClaim := { program := "ytkomndekiilbpaa", sum := "d0f996a1eef26977e4275226cec5aac677c59389c5c0187a063d5674d4c207f5", func := "loop.example/goboard/laws.FnSetStone", spec := "fnSetStone", apart := false, narrowed := true }
def FnSetStoneUptoSaid : Prop := fnSetStoneUptoRow.holds Try.pinned (OpenSpec.upto fnSetStoneSpec)

/-- 'laws.FnSetStoneTwice', WHERE WHAT IT READS IS OF BULK AT MOST 1048576: true; the input reads as it did. -/
def fnSetStoneTwiceUptoRow : OpenClaim := { program := "ytkomndekiilbpaa", sum := "d0f996a1eef26977e4275226cec5aac677c59389c5c0187a063d5674d4c207f5", func := "loop.example/goboard/laws.FnSetStoneTwice", spec := "fnSetStoneTwice", apart := false, narrowed := true }
def FnSetStoneTwiceUptoSaid : Prop := fnSetStoneTwiceUptoRow.holds Try.pinned (OpenSpec.upto fnSetStoneTwiceSpec)

/-- 'laws.FnCountStones', WHERE WHAT IT READS IS OF BULK AT MOST 1048576: true; the input reads as it did. -/
def fnCountStonesUptoRow : OpenClaim := { program := "ytkomndekiilbpaa", sum := "d0f996a1eef26977e4275226cec5aac677c59389c5c0187a063d5674d4c207f5", func := "loop.example/goboard/laws.FnCountStones", spec := "fnCountStones", apart := false, narrowed := true }
def FnCountStonesUptoSaid : Prop := fnCountStonesUptoRow.holds Try.pinned (OpenSpec.upto fnCountStonesSpec)

/-- 'laws.FnInvertBoard', WHERE WHAT IT READS IS OF BULK AT MOST 1048576: true; the input reads as it did. -/
def fnInvertBoardUptoRow : OpenClaim := { program := "ytkomndekiilbpaa", sum := "d0f996a1eef26977e4275226cec5aac677c59389c5c0187a063d5674d4c207f5", func := "loop.example/goboard/laws.FnInvertBoard", spec := "fnInvertBoard", apart := false, narrowed := true }
def FnInvertBoardUptoSaid : Prop := fnInvertBoardUptoRow.holds Try.pinned (OpenSpec.upto fnInvertBoardSpec)

/-- 'laws.FnTransformBoard', WHERE WHAT IT READS IS OF BULK AT MOST 1048576: true; the input reads as it did. -/
def fnTransformBoardUptoRow : OpenClaim := { program := "ytkomndekiilbpaa", sum := "d0f996a1eef26977e4275226cec5aac677c59389c5c0187a063d5674d4c207f5", func := "loop.example/goboard/laws.FnTransformBoard", spec := "fnTransformBoard", apart := false, narrowed := true }
def FnTransformBoardUptoSaid : Prop := fnTransformBoardUptoRow.holds Try.pinned (OpenSpec.upto fnTransformBoardSpec)

/-- 'laws.FnTransformBoardTwice', WHERE WHAT IT READS IS OF BULK AT MOST 1048576: true; the input reads as it did. -/
def fnTransformBoardTwiceUptoRow : OpenClaim := { program := "ytkomndekiilbpaa", sum := "d0f996a1eef26977e4275226cec5aac677c59389c5c0187a063d5674d4c207f5", func := "loop.example/goboard/laws.FnTransformBoardTwice", spec := "fnTransformBoardTwice", apart := false, narrowed := true }
def FnTransformBoardTwiceUptoSaid : Prop := fnTransformBoardTwiceUptoRow.holds Try.pinned (OpenSpec.upto fnTransformBoardTwiceSpec)

/-- 'laws.FnCanonicalBoard', WHERE WHAT IT READS IS OF BULK AT MOST 1048576: true; the input reads as it did. -/
def fnCanonicalBoardUptoRow : OpenClaim := { program := "ytkomndekiilbpaa", sum := "d0f996a1eef26977e4275226cec5aac677c59389c5c0187a063d5674d4c207f5", func := "loop.example/goboard/laws.FnCanonicalBoard", spec := "fnCanonicalBoard", apart := false, narrowed := true }
def FnCanonicalBoardUptoSaid : Prop := fnCanonicalBoardUptoRow.holds Try.pinned (OpenSpec.upto fnCanonicalBoardSpec)

/-- 'laws.FnExactCanonicalBoard', WHERE WHAT IT READS IS OF BULK AT MOST 1048576: true; the input reads as it did. -/
def fnExactCanonicalBoardUptoRow : OpenClaim := { program := "ytkomndekiilbpaa", sum := "d0f996a1eef26977e4275226cec5aac677c59389c5c0187a063d5674d4c207f5", func := "loop.example/goboard/laws.FnExactCanonicalBoard", spec := "fnExactCanonicalBoard", apart := false, narrowed := true }
def FnExactCanonicalBoardUptoSaid : Prop := fnExactCanonicalBoardUptoRow.holds Try.pinned (OpenSpec.upto fnExactCanonicalBoardSpec)

/-- 'laws.FnBoardRoundTrip', WHERE WHAT IT READS IS OF BULK AT MOST 1048576: true; the input reads as it did. -/
def fnBoardRoundTripUptoRow : OpenClaim := { program := "ytkomndekiilbpaa", sum := "d0f996a1eef26977e4275226cec5aac677c59389c5c0187a063d5674d4c207f5", func := "loop.example/goboard/laws.FnBoardRoundTrip", spec := "fnBoardRoundTrip", inPlace := ["internal/abi.NoEscape", "internal/bytealg.IndexByteString"], apart := false, narrowed := true }
def FnBoardRoundTripUptoSaid : Prop := fnBoardRoundTripUptoRow.holds Try.pinned (OpenSpec.upto fnBoardRoundTripSpec)

/-- 'laws.FnBoardCanonical', WHERE WHAT IT READS IS OF BULK AT MOST 1048576: true; the input reads as it did. -/
def fnBoardCanonicalUptoRow : OpenClaim := { program := "ytkomndekiilbpaa", sum := "d0f996a1eef26977e4275226cec5aac677c59389c5c0187a063d5674d4c207f5", func := "loop.example/goboard/laws.FnBoardCanonical", spec := "fnBoardCanonical", inPlace := ["internal/bytealg.IndexByteString", "internal/abi.NoEscape"], apart := false, narrowed := true }
def FnBoardCanonicalUptoSaid : Prop := fnBoardCanonicalUptoRow.holds Try.pinned (OpenSpec.upto fnBoardCanonicalSpec)

/-- 'laws.FnExactFormatBoard', WHERE WHAT IT READS IS OF BULK AT MOST 1048576: true; the input reads as it did. -/
def fnExactFormatBoardUptoRow : OpenClaim := { program := "ytkomndekiilbpaa", sum := "d0f996a1eef26977e4275226cec5aac677c59389c5c0187a063d5674d4c207f5", func := "loop.example/goboard/laws.FnExactFormatBoard", spec := "fnExactFormatBoard", inPlace := ["internal/abi.NoEscape"], apart := false, narrowed := true }
def FnExactFormatBoardUptoSaid : Prop := fnExactFormatBoardUptoRow.holds Try.pinned (OpenSpec.upto fnExactFormatBoardSpec)

/-- 'laws.FnExactParseBoard', WHERE WHAT IT READS IS OF BULK AT MOST 1048576: true; the input reads as it did. -/
def fnExactParseBoardUptoRow : OpenClaim := { program := "ytkomndekiilbpaa", sum := "d0f996a1eef26977e4275226cec5aac677c59389c5c0187a063d5674d4c207f5", func := "loop.example/goboard/laws.FnExactParseBoard", spec := "fnExactParseBoard", inPlace := ["internal/bytealg.IndexByteString"], apart := false, narrowed := true }
def FnExactParseBoardUptoSaid : Prop := fnExactParseBoardUptoRow.holds Try.pinned (OpenSpec.upto fnExactParseBoardSpec)

end Rows
end Go.Proofs.Ytkomndekiilbpaa
