/-
  No cell of these rows narrows 'for every input' (looked for: loops, veiled, ifaces, maps, wideKeys, modest, calm, conditions, laid).
  DERIVED. THE GIVEN ROWS OF THIS SEAT. 13 by the template 'for every input the law returns true; each argument reads behind the call as it read before'; 0 by the template 'total and deterministic' (their statements: YtdkmedlffphmdabTotals.lean).
  GIVEN WITH THE SEED: the statements are not yours to turn. If you find one false, say at which input.
  Laid BY PROGRAM, IN A SANDBOX (cutbox-rows.mjs): the forced cells as the released guide's own fill.sh prints them over the translation 8a0562039caeafe3… (all of the seat's roots in one cut). By AI agents, Wed Nov 11 2026. No macro, syntax, notation, axiom, sorry.
-/
import Derived.Test.YtdkmedlffphmdabChecked
import GoSem.Claim
import GoSem.ClaimJoined
import GoSem.ClaimMapViews
import Derived.JoinedTies
import Derived.KernelRfl
namespace Go.Proofs.Ytdkmedlffphmdab
/- THE CELL 'sum', in the pinned program and in every row, IS THE sha256 OF THE DUMP (.gsa) THAT YtdkmedlffphmdabProg.lean LOADS. Nothing in Lean hashes anything: it is a label: what it is worth is what the hold of that sum in a sandbox is worth. -/
noncomputable def Try.pinned : Pinned := { name := "ytdkmedlffphmdab", sum := "8a0562039caeafe3237a1e1e615289586d39a252a545d1e1d64f8dac316cba9b", checked := Try.checked }
namespace Rows
def none {H : Type} : Left H := { results := [], args := [] }

/-- 'laws.FnSetStone': WHATEVER THE INPUT: true; the input reads as it did. -/
def fnSetStoneSpec : ChangeSpec := { name := "fnSetStone", fn := fun _ => fun
  | [d] => { results := [.lit (.bool true)], args := [d] }
  | _ => none }
def fnSetStoneRow : OpenClaim := { program := "ytdkmedlffphmdab", sum := "8a0562039caeafe3237a1e1e615289586d39a252a545d1e1d64f8dac316cba9b", func := "loop.example/goboard/laws.FnSetStone", spec := "fnSetStone", apart := false }
def FnSetStoneSaid : Prop := fnSetStoneRow.holds Try.pinned (OpenSpec.ofChange fnSetStoneSpec)

/-- ITS FALSE NEIGHBOUR: 'it returns false'. Refute it at one input. -/
def fnSetStoneWrong : ChangeSpec := { name := "fnSetStone", fn := fun _ => fun
  | [d] => { results := [.lit (.bool false)], args := [d] }
  | _ => none }
def FnSetStoneWrongFalsely : Prop := fnSetStoneRow.holds Try.pinned (OpenSpec.ofChange fnSetStoneWrong)

/-- 'laws.FnCountStones': WHATEVER THE INPUT: true; the input reads as it did. -/
def fnCountStonesSpec : ChangeSpec := { name := "fnCountStones", fn := fun _ => fun
  | [d] => { results := [.lit (.bool true)], args := [d] }
  | _ => none }
def fnCountStonesRow : OpenClaim := { program := "ytdkmedlffphmdab", sum := "8a0562039caeafe3237a1e1e615289586d39a252a545d1e1d64f8dac316cba9b", func := "loop.example/goboard/laws.FnCountStones", spec := "fnCountStones", apart := false }
def FnCountStonesSaid : Prop := fnCountStonesRow.holds Try.pinned (OpenSpec.ofChange fnCountStonesSpec)

/-- ITS FALSE NEIGHBOUR: 'it returns false'. Refute it at one input. -/
def fnCountStonesWrong : ChangeSpec := { name := "fnCountStones", fn := fun _ => fun
  | [d] => { results := [.lit (.bool false)], args := [d] }
  | _ => none }
def FnCountStonesWrongFalsely : Prop := fnCountStonesRow.holds Try.pinned (OpenSpec.ofChange fnCountStonesWrong)

/-- 'laws.FnTransformBoard': WHATEVER THE INPUT: true; the input reads as it did. -/
def fnTransformBoardSpec : ChangeSpec := { name := "fnTransformBoard", fn := fun _ => fun
  | [d] => { results := [.lit (.bool true)], args := [d] }
  | _ => none }
def fnTransformBoardRow : OpenClaim := { program := "ytdkmedlffphmdab", sum := "8a0562039caeafe3237a1e1e615289586d39a252a545d1e1d64f8dac316cba9b", func := "loop.example/goboard/laws.FnTransformBoard", spec := "fnTransformBoard", apart := false }
def FnTransformBoardSaid : Prop := fnTransformBoardRow.holds Try.pinned (OpenSpec.ofChange fnTransformBoardSpec)

/-- ITS FALSE NEIGHBOUR: 'it returns false'. Refute it at one input. -/
def fnTransformBoardWrong : ChangeSpec := { name := "fnTransformBoard", fn := fun _ => fun
  | [d] => { results := [.lit (.bool false)], args := [d] }
  | _ => none }
def FnTransformBoardWrongFalsely : Prop := fnTransformBoardRow.holds Try.pinned (OpenSpec.ofChange fnTransformBoardWrong)

/-- 'laws.FnTransformBoardTwice': WHATEVER THE INPUT: true; the input reads as it did. -/
def fnTransformBoardTwiceSpec : ChangeSpec := { name := "fnTransformBoardTwice", fn := fun _ => fun
  | [d] => { results := [.lit (.bool true)], args := [d] }
  | _ => none }
def fnTransformBoardTwiceRow : OpenClaim := { program := "ytdkmedlffphmdab", sum := "8a0562039caeafe3237a1e1e615289586d39a252a545d1e1d64f8dac316cba9b", func := "loop.example/goboard/laws.FnTransformBoardTwice", spec := "fnTransformBoardTwice", apart := false }
def FnTransformBoardTwiceSaid : Prop := fnTransformBoardTwiceRow.holds Try.pinned (OpenSpec.ofChange fnTransformBoardTwiceSpec)

/-- ITS FALSE NEIGHBOUR: 'it returns false'. Refute it at one input. -/
def fnTransformBoardTwiceWrong : ChangeSpec := { name := "fnTransformBoardTwice", fn := fun _ => fun
  | [d] => { results := [.lit (.bool false)], args := [d] }
  | _ => none }
def FnTransformBoardTwiceWrongFalsely : Prop := fnTransformBoardTwiceRow.holds Try.pinned (OpenSpec.ofChange fnTransformBoardTwiceWrong)

/-- 'laws.FnInvertBoard': WHATEVER THE INPUT: true; the input reads as it did. -/
def fnInvertBoardSpec : ChangeSpec := { name := "fnInvertBoard", fn := fun _ => fun
  | [d] => { results := [.lit (.bool true)], args := [d] }
  | _ => none }
def fnInvertBoardRow : OpenClaim := { program := "ytdkmedlffphmdab", sum := "8a0562039caeafe3237a1e1e615289586d39a252a545d1e1d64f8dac316cba9b", func := "loop.example/goboard/laws.FnInvertBoard", spec := "fnInvertBoard", apart := false }
def FnInvertBoardSaid : Prop := fnInvertBoardRow.holds Try.pinned (OpenSpec.ofChange fnInvertBoardSpec)

/-- ITS FALSE NEIGHBOUR: 'it returns false'. Refute it at one input. -/
def fnInvertBoardWrong : ChangeSpec := { name := "fnInvertBoard", fn := fun _ => fun
  | [d] => { results := [.lit (.bool false)], args := [d] }
  | _ => none }
def FnInvertBoardWrongFalsely : Prop := fnInvertBoardRow.holds Try.pinned (OpenSpec.ofChange fnInvertBoardWrong)

/-- 'laws.FnCanonicalBoard': WHATEVER THE INPUT: true; the input reads as it did. -/
def fnCanonicalBoardSpec : ChangeSpec := { name := "fnCanonicalBoard", fn := fun _ => fun
  | [d] => { results := [.lit (.bool true)], args := [d] }
  | _ => none }
def fnCanonicalBoardRow : OpenClaim := { program := "ytdkmedlffphmdab", sum := "8a0562039caeafe3237a1e1e615289586d39a252a545d1e1d64f8dac316cba9b", func := "loop.example/goboard/laws.FnCanonicalBoard", spec := "fnCanonicalBoard", apart := false }
def FnCanonicalBoardSaid : Prop := fnCanonicalBoardRow.holds Try.pinned (OpenSpec.ofChange fnCanonicalBoardSpec)

/-- ITS FALSE NEIGHBOUR: 'it returns false'. Refute it at one input. -/
def fnCanonicalBoardWrong : ChangeSpec := { name := "fnCanonicalBoard", fn := fun _ => fun
  | [d] => { results := [.lit (.bool false)], args := [d] }
  | _ => none }
def FnCanonicalBoardWrongFalsely : Prop := fnCanonicalBoardRow.holds Try.pinned (OpenSpec.ofChange fnCanonicalBoardWrong)

/-- 'laws.FnSetStoneTwice': WHATEVER THE INPUT: true; the input reads as it did. -/
def fnSetStoneTwiceSpec : ChangeSpec := { name := "fnSetStoneTwice", fn := fun _ => fun
  | [d] => { results := [.lit (.bool true)], args := [d] }
  | _ => none }
def fnSetStoneTwiceRow : OpenClaim := { program := "ytdkmedlffphmdab", sum := "8a0562039caeafe3237a1e1e615289586d39a252a545d1e1d64f8dac316cba9b", func := "loop.example/goboard/laws.FnSetStoneTwice", spec := "fnSetStoneTwice", apart := false }
def FnSetStoneTwiceSaid : Prop := fnSetStoneTwiceRow.holds Try.pinned (OpenSpec.ofChange fnSetStoneTwiceSpec)

/-- ITS FALSE NEIGHBOUR: 'it returns false'. Refute it at one input. -/
def fnSetStoneTwiceWrong : ChangeSpec := { name := "fnSetStoneTwice", fn := fun _ => fun
  | [d] => { results := [.lit (.bool false)], args := [d] }
  | _ => none }
def FnSetStoneTwiceWrongFalsely : Prop := fnSetStoneTwiceRow.holds Try.pinned (OpenSpec.ofChange fnSetStoneTwiceWrong)

/-- 'laws.FnExactValidBoard': WHATEVER THE INPUT: true; the input reads as it did. -/
def fnExactValidBoardSpec : ChangeSpec := { name := "fnExactValidBoard", fn := fun _ => fun
  | [d] => { results := [.lit (.bool true)], args := [d] }
  | _ => none }
def fnExactValidBoardRow : OpenClaim := { program := "ytdkmedlffphmdab", sum := "8a0562039caeafe3237a1e1e615289586d39a252a545d1e1d64f8dac316cba9b", func := "loop.example/goboard/laws.FnExactValidBoard", spec := "fnExactValidBoard", apart := false }
def FnExactValidBoardSaid : Prop := fnExactValidBoardRow.holds Try.pinned (OpenSpec.ofChange fnExactValidBoardSpec)

/-- ITS FALSE NEIGHBOUR: 'it returns false'. Refute it at one input. -/
def fnExactValidBoardWrong : ChangeSpec := { name := "fnExactValidBoard", fn := fun _ => fun
  | [d] => { results := [.lit (.bool false)], args := [d] }
  | _ => none }
def FnExactValidBoardWrongFalsely : Prop := fnExactValidBoardRow.holds Try.pinned (OpenSpec.ofChange fnExactValidBoardWrong)

/-- 'laws.FnExactBoardNew': WHATEVER THE INPUT: true; the input reads as it did. -/
def fnExactBoardNewSpec : ChangeSpec := { name := "fnExactBoardNew", fn := fun _ => fun
  | [d] => { results := [.lit (.bool true)], args := [d] }
  | _ => none }
def fnExactBoardNewRow : OpenClaim := { program := "ytdkmedlffphmdab", sum := "8a0562039caeafe3237a1e1e615289586d39a252a545d1e1d64f8dac316cba9b", func := "loop.example/goboard/laws.FnExactBoardNew", spec := "fnExactBoardNew", apart := false }
def FnExactBoardNewSaid : Prop := fnExactBoardNewRow.holds Try.pinned (OpenSpec.ofChange fnExactBoardNewSpec)

/-- ITS FALSE NEIGHBOUR: 'it returns false'. Refute it at one input. -/
def fnExactBoardNewWrong : ChangeSpec := { name := "fnExactBoardNew", fn := fun _ => fun
  | [d] => { results := [.lit (.bool false)], args := [d] }
  | _ => none }
def FnExactBoardNewWrongFalsely : Prop := fnExactBoardNewRow.holds Try.pinned (OpenSpec.ofChange fnExactBoardNewWrong)

/-- 'laws.FnExactSetStone': WHATEVER THE INPUT: true; the input reads as it did. -/
def fnExactSetStoneSpec : ChangeSpec := { name := "fnExactSetStone", fn := fun _ => fun
  | [d1, d2, d3] => { results := [.lit (.bool true)], args := [d1, d2, d3] }
  | _ => none }
def fnExactSetStoneRow : OpenClaim := { program := "ytdkmedlffphmdab", sum := "8a0562039caeafe3237a1e1e615289586d39a252a545d1e1d64f8dac316cba9b", func := "loop.example/goboard/laws.FnExactSetStone", spec := "fnExactSetStone", apart := false }
def FnExactSetStoneSaid : Prop := fnExactSetStoneRow.holds Try.pinned (OpenSpec.ofChange fnExactSetStoneSpec)

/-- ITS FALSE NEIGHBOUR: 'it returns false'. Refute it at one input. -/
def fnExactSetStoneWrong : ChangeSpec := { name := "fnExactSetStone", fn := fun _ => fun
  | [d1, d2, d3] => { results := [.lit (.bool false)], args := [d1, d2, d3] }
  | _ => none }
def FnExactSetStoneWrongFalsely : Prop := fnExactSetStoneRow.holds Try.pinned (OpenSpec.ofChange fnExactSetStoneWrong)

/-- 'laws.FnExactCountStones': WHATEVER THE INPUT: true; the input reads as it did. -/
def fnExactCountStonesSpec : ChangeSpec := { name := "fnExactCountStones", fn := fun _ => fun
  | [d1, d2] => { results := [.lit (.bool true)], args := [d1, d2] }
  | _ => none }
def fnExactCountStonesRow : OpenClaim := { program := "ytdkmedlffphmdab", sum := "8a0562039caeafe3237a1e1e615289586d39a252a545d1e1d64f8dac316cba9b", func := "loop.example/goboard/laws.FnExactCountStones", spec := "fnExactCountStones", apart := false }
def FnExactCountStonesSaid : Prop := fnExactCountStonesRow.holds Try.pinned (OpenSpec.ofChange fnExactCountStonesSpec)

/-- ITS FALSE NEIGHBOUR: 'it returns false'. Refute it at one input. -/
def fnExactCountStonesWrong : ChangeSpec := { name := "fnExactCountStones", fn := fun _ => fun
  | [d1, d2] => { results := [.lit (.bool false)], args := [d1, d2] }
  | _ => none }
def FnExactCountStonesWrongFalsely : Prop := fnExactCountStonesRow.holds Try.pinned (OpenSpec.ofChange fnExactCountStonesWrong)

/-- 'laws.FnExactTransformBoard': WHATEVER THE INPUT: true; the input reads as it did. -/
def fnExactTransformBoardSpec : ChangeSpec := { name := "fnExactTransformBoard", fn := fun _ => fun
  | [d1, d2] => { results := [.lit (.bool true)], args := [d1, d2] }
  | _ => none }
def fnExactTransformBoardRow : OpenClaim := { program := "ytdkmedlffphmdab", sum := "8a0562039caeafe3237a1e1e615289586d39a252a545d1e1d64f8dac316cba9b", func := "loop.example/goboard/laws.FnExactTransformBoard", spec := "fnExactTransformBoard", apart := false }
def FnExactTransformBoardSaid : Prop := fnExactTransformBoardRow.holds Try.pinned (OpenSpec.ofChange fnExactTransformBoardSpec)

/-- ITS FALSE NEIGHBOUR: 'it returns false'. Refute it at one input. -/
def fnExactTransformBoardWrong : ChangeSpec := { name := "fnExactTransformBoard", fn := fun _ => fun
  | [d1, d2] => { results := [.lit (.bool false)], args := [d1, d2] }
  | _ => none }
def FnExactTransformBoardWrongFalsely : Prop := fnExactTransformBoardRow.holds Try.pinned (OpenSpec.ofChange fnExactTransformBoardWrong)

/-- 'laws.FnExactInvertBoard': WHATEVER THE INPUT: true; the input reads as it did. -/
def fnExactInvertBoardSpec : ChangeSpec := { name := "fnExactInvertBoard", fn := fun _ => fun
  | [d] => { results := [.lit (.bool true)], args := [d] }
  | _ => none }
def fnExactInvertBoardRow : OpenClaim := { program := "ytdkmedlffphmdab", sum := "8a0562039caeafe3237a1e1e615289586d39a252a545d1e1d64f8dac316cba9b", func := "loop.example/goboard/laws.FnExactInvertBoard", spec := "fnExactInvertBoard", apart := false }
def FnExactInvertBoardSaid : Prop := fnExactInvertBoardRow.holds Try.pinned (OpenSpec.ofChange fnExactInvertBoardSpec)

/-- ITS FALSE NEIGHBOUR: 'it returns false'. Refute it at one input. -/
def fnExactInvertBoardWrong : ChangeSpec := { name := "fnExactInvertBoard", fn := fun _ => fun
  | [d] => { results := [.lit (.bool false)], args := [d] }
  | _ => none }
def FnExactInvertBoardWrongFalsely : Prop := fnExactInvertBoardRow.holds Try.pinned (OpenSpec.ofChange fnExactInvertBoardWrong)

/- THE SECOND FORM. 'bulk': how many values and letters a reading holds, each counted each time it is reached (what is shared counts as often as it is met; a slice's spare places count too). A statement '..UptoSaid' is the law's where the arguments, and the package variables that the reading takes, are together of bulk at most 1048576: NARROWER than '..Said'. Prove '..Said' where nothing that the law and all that it calls make is longer than what came in: it says more and counts as full. Else prove '..UptoSaid'. A law counts once. -/
mutual
def uptoBulk {H : Type} : DataW H → Nat
  | .lit (.string bytes) => bytes.length + 1
  | .lit _ => 1
  | .nil => 1
  | .ptr d => uptoBulk d + 1
  | .slice elems spare => uptoBulkAll elems + uptoBulkAll spare + 1
  | .agg parts => uptoBulkAll parts + 1
  | .iface _ d => uptoBulk d + 1
  | .map entries => uptoBulkEntries entries + 1
  | .held _ => 1
def uptoBulkAll {H : Type} : List (DataW H) → Nat
  | [] => 0
  | d :: r => uptoBulk d + uptoBulkAll r
def uptoBulkEntries {H : Type} : List (Lit × DataW H) → Nat
  | [] => 0
  | x :: r => uptoBulkEntry x + uptoBulkEntries r
def uptoBulkEntry {H : Type} : Lit × DataW H → Nat
  | (.string bytes, d) => bytes.length + uptoBulk d + 1
  | (_, d) => uptoBulk d + 1
 end
def uptoSmall : (H : Type) → List (DataW H) → Bool := fun _ ds => decide (uptoBulkAll ds ≤ 1048576)
def OpenSpec.upto (s : _root_.Go.ChangeSpec) : _root_.Go.OpenSpec := { _root_.Go.OpenSpec.ofChange s with cond := some uptoSmall }

/-- 'laws.FnSetStone', WHERE WHAT IT READS IS OF BULK AT MOST 1048576: true; the input reads as it did. -/
def fnSetStoneUptoRow : OpenClaim := { program := "ytdkmedlffphmdab", sum := "8a0562039caeafe3237a1e1e615289586d39a252a545d1e1d64f8dac316cba9b", func := "loop.example/goboard/laws.FnSetStone", spec := "fnSetStone", apart := false, narrowed := true }
def FnSetStoneUptoSaid : Prop := fnSetStoneUptoRow.holds Try.pinned (OpenSpec.upto fnSetStoneSpec)

/-- 'laws.FnCountStones', WHERE WHAT IT READS IS OF BULK AT MOST 1048576: true; the input reads as it did. -/
def fnCountStonesUptoRow : OpenClaim := { program := "ytdkmedlffphmdab", sum := "8a0562039caeafe3237a1e1e615289586d39a252a545d1e1d64f8dac316cba9b", func := "loop.example/goboard/laws.FnCountStones", spec := "fnCountStones", apart := false, narrowed := true }
def FnCountStonesUptoSaid : Prop := fnCountStonesUptoRow.holds Try.pinned (OpenSpec.upto fnCountStonesSpec)

/-- 'laws.FnTransformBoard', WHERE WHAT IT READS IS OF BULK AT MOST 1048576: true; the input reads as it did. -/
def fnTransformBoardUptoRow : OpenClaim := { program := "ytdkmedlffphmdab", sum := "8a0562039caeafe3237a1e1e615289586d39a252a545d1e1d64f8dac316cba9b", func := "loop.example/goboard/laws.FnTransformBoard", spec := "fnTransformBoard", apart := false, narrowed := true }
def FnTransformBoardUptoSaid : Prop := fnTransformBoardUptoRow.holds Try.pinned (OpenSpec.upto fnTransformBoardSpec)

/-- 'laws.FnTransformBoardTwice', WHERE WHAT IT READS IS OF BULK AT MOST 1048576: true; the input reads as it did. -/
def fnTransformBoardTwiceUptoRow : OpenClaim := { program := "ytdkmedlffphmdab", sum := "8a0562039caeafe3237a1e1e615289586d39a252a545d1e1d64f8dac316cba9b", func := "loop.example/goboard/laws.FnTransformBoardTwice", spec := "fnTransformBoardTwice", apart := false, narrowed := true }
def FnTransformBoardTwiceUptoSaid : Prop := fnTransformBoardTwiceUptoRow.holds Try.pinned (OpenSpec.upto fnTransformBoardTwiceSpec)

/-- 'laws.FnInvertBoard', WHERE WHAT IT READS IS OF BULK AT MOST 1048576: true; the input reads as it did. -/
def fnInvertBoardUptoRow : OpenClaim := { program := "ytdkmedlffphmdab", sum := "8a0562039caeafe3237a1e1e615289586d39a252a545d1e1d64f8dac316cba9b", func := "loop.example/goboard/laws.FnInvertBoard", spec := "fnInvertBoard", apart := false, narrowed := true }
def FnInvertBoardUptoSaid : Prop := fnInvertBoardUptoRow.holds Try.pinned (OpenSpec.upto fnInvertBoardSpec)

/-- 'laws.FnCanonicalBoard', WHERE WHAT IT READS IS OF BULK AT MOST 1048576: true; the input reads as it did. -/
def fnCanonicalBoardUptoRow : OpenClaim := { program := "ytdkmedlffphmdab", sum := "8a0562039caeafe3237a1e1e615289586d39a252a545d1e1d64f8dac316cba9b", func := "loop.example/goboard/laws.FnCanonicalBoard", spec := "fnCanonicalBoard", apart := false, narrowed := true }
def FnCanonicalBoardUptoSaid : Prop := fnCanonicalBoardUptoRow.holds Try.pinned (OpenSpec.upto fnCanonicalBoardSpec)

/-- 'laws.FnSetStoneTwice', WHERE WHAT IT READS IS OF BULK AT MOST 1048576: true; the input reads as it did. -/
def fnSetStoneTwiceUptoRow : OpenClaim := { program := "ytdkmedlffphmdab", sum := "8a0562039caeafe3237a1e1e615289586d39a252a545d1e1d64f8dac316cba9b", func := "loop.example/goboard/laws.FnSetStoneTwice", spec := "fnSetStoneTwice", apart := false, narrowed := true }
def FnSetStoneTwiceUptoSaid : Prop := fnSetStoneTwiceUptoRow.holds Try.pinned (OpenSpec.upto fnSetStoneTwiceSpec)

/-- 'laws.FnExactValidBoard', WHERE WHAT IT READS IS OF BULK AT MOST 1048576: true; the input reads as it did. -/
def fnExactValidBoardUptoRow : OpenClaim := { program := "ytdkmedlffphmdab", sum := "8a0562039caeafe3237a1e1e615289586d39a252a545d1e1d64f8dac316cba9b", func := "loop.example/goboard/laws.FnExactValidBoard", spec := "fnExactValidBoard", apart := false, narrowed := true }
def FnExactValidBoardUptoSaid : Prop := fnExactValidBoardUptoRow.holds Try.pinned (OpenSpec.upto fnExactValidBoardSpec)

/-- 'laws.FnExactBoardNew', WHERE WHAT IT READS IS OF BULK AT MOST 1048576: true; the input reads as it did. -/
def fnExactBoardNewUptoRow : OpenClaim := { program := "ytdkmedlffphmdab", sum := "8a0562039caeafe3237a1e1e615289586d39a252a545d1e1d64f8dac316cba9b", func := "loop.example/goboard/laws.FnExactBoardNew", spec := "fnExactBoardNew", apart := false, narrowed := true }
def FnExactBoardNewUptoSaid : Prop := fnExactBoardNewUptoRow.holds Try.pinned (OpenSpec.upto fnExactBoardNewSpec)

/-- 'laws.FnExactSetStone', WHERE WHAT IT READS IS OF BULK AT MOST 1048576: true; the input reads as it did. -/
def fnExactSetStoneUptoRow : OpenClaim := { program := "ytdkmedlffphmdab", sum := "8a0562039caeafe3237a1e1e615289586d39a252a545d1e1d64f8dac316cba9b", func := "loop.example/goboard/laws.FnExactSetStone", spec := "fnExactSetStone", apart := false, narrowed := true }
def FnExactSetStoneUptoSaid : Prop := fnExactSetStoneUptoRow.holds Try.pinned (OpenSpec.upto fnExactSetStoneSpec)

/-- 'laws.FnExactCountStones', WHERE WHAT IT READS IS OF BULK AT MOST 1048576: true; the input reads as it did. -/
def fnExactCountStonesUptoRow : OpenClaim := { program := "ytdkmedlffphmdab", sum := "8a0562039caeafe3237a1e1e615289586d39a252a545d1e1d64f8dac316cba9b", func := "loop.example/goboard/laws.FnExactCountStones", spec := "fnExactCountStones", apart := false, narrowed := true }
def FnExactCountStonesUptoSaid : Prop := fnExactCountStonesUptoRow.holds Try.pinned (OpenSpec.upto fnExactCountStonesSpec)

/-- 'laws.FnExactTransformBoard', WHERE WHAT IT READS IS OF BULK AT MOST 1048576: true; the input reads as it did. -/
def fnExactTransformBoardUptoRow : OpenClaim := { program := "ytdkmedlffphmdab", sum := "8a0562039caeafe3237a1e1e615289586d39a252a545d1e1d64f8dac316cba9b", func := "loop.example/goboard/laws.FnExactTransformBoard", spec := "fnExactTransformBoard", apart := false, narrowed := true }
def FnExactTransformBoardUptoSaid : Prop := fnExactTransformBoardUptoRow.holds Try.pinned (OpenSpec.upto fnExactTransformBoardSpec)

/-- 'laws.FnExactInvertBoard', WHERE WHAT IT READS IS OF BULK AT MOST 1048576: true; the input reads as it did. -/
def fnExactInvertBoardUptoRow : OpenClaim := { program := "ytdkmedlffphmdab", sum := "8a0562039caeafe3237a1e1e615289586d39a252a545d1e1d64f8dac316cba9b", func := "loop.example/goboard/laws.FnExactInvertBoard", spec := "fnExactInvertBoard", apart := false, narrowed := true }
def FnExactInvertBoardUptoSaid : Prop := fnExactInvertBoardUptoRow.holds Try.pinned (OpenSpec.upto fnExactInvertBoardSpec)

end Rows
end Go.Proofs.Ytdkmedlffphmdab
