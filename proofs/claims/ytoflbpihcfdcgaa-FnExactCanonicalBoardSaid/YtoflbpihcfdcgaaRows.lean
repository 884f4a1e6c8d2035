/-
  No cell of these rows narrows 'for every input' (looked for: loops, veiled, ifaces, maps, wideKeys, modest, calm, conditions, laid).
  DERIVED. THE GIVEN ROWS OF THIS SEAT. 12 by the template 'for every input the law returns true; each argument reads behind the call as it read before'; 0 by the template 'total and deterministic' (their statements: YtoflbpihcfdcgaaTotals.lean).
  GIVEN WITH THE SEED: the statements are not yours to turn. If you find one false, say at which input.
  Laid BY PROGRAM, IN A SANDBOX (cutbox-rows.mjs): the forced cells as the released guide's own fill.sh prints them over the translation 4aef1e309eccd06b… (all of the seat's roots in one cut). By AI agents, Wed Nov 11 2026. No macro, syntax, notation, axiom, sorry.
-/
import Derived.Test.YtoflbpihcfdcgaaChecked
import GoSem.Claim
import GoSem.ClaimJoined
import GoSem.ClaimMapViews
import Derived.JoinedTies
import Derived.KernelRfl
namespace Go.Proofs.Ytoflbpihcfdcgaa
/- THE CELL 'sum', in the pinned program and in every row, IS THE sha256 OF THE DUMP (.gsa) THAT YtoflbpihcfdcgaaProg.lean LOADS. Nothing in Lean hashes anything: it is a label: what it is worth is what the hold of that sum in a sandbox is worth. -/
noncomputable def Try.pinned : Pinned := { name := "ytoflbpihcfdcgaa", sum := "4aef1e309eccd06b4c2ba4f6112b6794f052946b6e157eaa5bb6bda95060c817", checked := Try.checked }
namespace Rows
def none {H : Type} : Left H := { results := [], args := [] }

/-- 'laws.FnTransformBoardTwice': WHATEVER THE INPUT: true; the input reads as it did. -/
def fnTransformBoardTwiceSpec : ChangeSpec := { name := "fnTransformBoardTwice", fn := fun _ => fun
  | [d] => { results := [.lit (.bool true)], args := [d] }
  | _ => none }
def fnTransformBoardTwiceRow : OpenClaim := { program := "ytoflbpihcfdcgaa", sum := "4aef1e309eccd06b4c2ba4f6112b6794f052946b6e157eaa5bb6bda95060c817", func := "loop.example/goboard/laws.FnTransformBoardTwice", spec := "fnTransformBoardTwice", apart := false }
def FnTransformBoardTwiceSaid : Prop := fnTransformBoardTwiceRow.holds Try.pinned (OpenSpec.ofChange fnTransformBoardTwiceSpec)

/-- ITS FALSE NEIGHBOUR: 'it returns false'. Refute it at one input. -/
def fnTransformBoardTwiceWrong : ChangeSpec := { name := "fnTransformBoardTwice", fn := fun _ => fun
  | [d] => { results := [.lit (.bool false)], args := [d] }
  | _ => none }
def FnTransformBoardTwiceWrongFalsely : Prop := fnTransformBoardTwiceRow.holds Try.pinned (OpenSpec.ofChange fnTransformBoardTwiceWrong)

/-- 'laws.FnTransformBoard': WHATEVER THE INPUT: true; the input reads as it did. -/
def fnTransformBoardSpec : ChangeSpec := { name := "fnTransformBoard", fn := fun _ => fun
  | [d] => { results := [.lit (.bool true)], args := [d] }
  | _ => none }
def fnTransformBoardRow : OpenClaim := { program := "ytoflbpihcfdcgaa", sum := "4aef1e309eccd06b4c2ba4f6112b6794f052946b6e157eaa5bb6bda95060c817", func := "loop.example/goboard/laws.FnTransformBoard", spec := "fnTransformBoard", apart := false }
def FnTransformBoardSaid : Prop := fnTransformBoardRow.holds Try.pinned (OpenSpec.ofChange fnTransformBoardSpec)

/-- ITS FALSE NEIGHBOUR: 'it returns false'. Refute it at one input. -/
def fnTransformBoardWrong : ChangeSpec := { name := "fnTransformBoard", fn := fun _ => fun
  | [d] => { results := [.lit (.bool false)], args := [d] }
  | _ => none }
def FnTransformBoardWrongFalsely : Prop := fnTransformBoardRow.holds Try.pinned (OpenSpec.ofChange fnTransformBoardWrong)

/-- 'laws.FnSetStone': WHATEVER THE INPUT: true; the input reads as it did. -/
def fnSetStoneSpec : ChangeSpec := { name := "fnSetStone", fn := fun _ => fun
  | [d] => { results := [.lit (.bool true)], args := [d] }
  | _ => none }
def fnSetStoneRow : OpenClaim := { program := "ytoflbpihcfdcgaa", sum := "4aef1e309eccd06b4c2ba4f6112b6794f052946b6e157eaa5bb6bda95060c817", func := "loop.example/goboard/laws.FnSetStone", spec := "fnSetStone", apart := false }
def FnSetStoneSaid : Prop := fnSetStoneRow.holds Try.pinned (OpenSpec.ofChange fnSetStoneSpec)

/-- ITS FALSE NEIGHBOUR: 'it returns false'. Refute it at one input. -/
def fnSetStoneWrong : ChangeSpec := { name := "fnSetStone", fn := fun _ => fun
  | [d] => { results := [.lit (.bool false)], args := [d] }
  | _ => none }
def FnSetStoneWrongFalsely : Prop := fnSetStoneRow.holds Try.pinned (OpenSpec.ofChange fnSetStoneWrong)

/-- 'laws.FnSetStoneTwice': WHATEVER THE INPUT: true; the input reads as it did. -/
def fnSetStoneTwiceSpec : ChangeSpec := { name := "fnSetStoneTwice", fn := fun _ => fun
  | [d] => { results := [.lit (.bool true)], args := [d] }
  | _ => none }
def fnSetStoneTwiceRow : OpenClaim := { program := "ytoflbpihcfdcgaa", sum := "4aef1e309eccd06b4c2ba4f6112b6794f052946b6e157eaa5bb6bda95060c817", func := "loop.example/goboard/laws.FnSetStoneTwice", spec := "fnSetStoneTwice", apart := false }
def FnSetStoneTwiceSaid : Prop := fnSetStoneTwiceRow.holds Try.pinned (OpenSpec.ofChange fnSetStoneTwiceSpec)

/-- ITS FALSE NEIGHBOUR: 'it returns false'. Refute it at one input. -/
def fnSetStoneTwiceWrong : ChangeSpec := { name := "fnSetStoneTwice", fn := fun _ => fun
  | [d] => { results := [.lit (.bool false)], args := [d] }
  | _ => none }
def FnSetStoneTwiceWrongFalsely : Prop := fnSetStoneTwiceRow.holds Try.pinned (OpenSpec.ofChange fnSetStoneTwiceWrong)

/-- 'laws.FnExactCanonicalBoard': WHATEVER THE INPUT: true; the input reads as it did. -/
def fnExactCanonicalBoardSpec : ChangeSpec := { name := "fnExactCanonicalBoard", fn := fun _ => fun
  | [d] => { results := [.lit (.bool true)], args := [d] }
  | _ => none }
def fnExactCanonicalBoardRow : OpenClaim := { program := "ytoflbpihcfdcgaa", sum := "4aef1e309eccd06b4c2ba4f6112b6794f052946b6e157eaa5bb6bda95060c817", func := "loop.example/goboard/laws.FnExactCanonicalBoard", spec := "fnExactCanonicalBoard", apart := false }
def FnExactCanonicalBoardSaid : Prop := fnExactCanonicalBoardRow.holds Try.pinned (OpenSpec.ofChange fnExactCanonicalBoardSpec)

/-- ITS FALSE NEIGHBOUR: 'it returns false'. Refute it at one input. -/
def fnExactCanonicalBoardWrong : ChangeSpec := { name := "fnExactCanonicalBoard", fn := fun _ => fun
  | [d] => { results := [.lit (.bool false)], args := [d] }
  | _ => none }
def FnExactCanonicalBoardWrongFalsely : Prop := fnExactCanonicalBoardRow.holds Try.pinned (OpenSpec.ofChange fnExactCanonicalBoardWrong)

/-- 'laws.FnExactGroupOf': WHATEVER THE INPUT: true; the input reads as it did. -/
def fnExactGroupOfSpec : ChangeSpec := { name := "fnExactGroupOf", fn := fun _ => fun
  | [d1, d2] => { results := [.lit (.bool true)], args := [d1, d2] }
  | _ => none }
def fnExactGroupOfRow : OpenClaim := { program := "ytoflbpihcfdcgaa", sum := "4aef1e309eccd06b4c2ba4f6112b6794f052946b6e157eaa5bb6bda95060c817", func := "loop.example/goboard/laws.FnExactGroupOf", spec := "fnExactGroupOf", apart := false }
def FnExactGroupOfSaid : Prop := fnExactGroupOfRow.holds Try.pinned (OpenSpec.ofChange fnExactGroupOfSpec)

/-- ITS FALSE NEIGHBOUR: 'it returns false'. Refute it at one input. -/
def fnExactGroupOfWrong : ChangeSpec := { name := "fnExactGroupOf", fn := fun _ => fun
  | [d1, d2] => { results := [.lit (.bool false)], args := [d1, d2] }
  | _ => none }
def FnExactGroupOfWrongFalsely : Prop := fnExactGroupOfRow.holds Try.pinned (OpenSpec.ofChange fnExactGroupOfWrong)

/-- 'laws.FnExactLibertiesOf': WHATEVER THE INPUT: true; the input reads as it did. -/
def fnExactLibertiesOfSpec : ChangeSpec := { name := "fnExactLibertiesOf", fn := fun _ => fun
  | [d1, d2] => { results := [.lit (.bool true)], args := [d1, d2] }
  | _ => none }
def fnExactLibertiesOfRow : OpenClaim := { program := "ytoflbpihcfdcgaa", sum := "4aef1e309eccd06b4c2ba4f6112b6794f052946b6e157eaa5bb6bda95060c817", func := "loop.example/goboard/laws.FnExactLibertiesOf", spec := "fnExactLibertiesOf", apart := false }
def FnExactLibertiesOfSaid : Prop := fnExactLibertiesOfRow.holds Try.pinned (OpenSpec.ofChange fnExactLibertiesOfSpec)

/-- ITS FALSE NEIGHBOUR: 'it returns false'. Refute it at one input. -/
def fnExactLibertiesOfWrong : ChangeSpec := { name := "fnExactLibertiesOf", fn := fun _ => fun
  | [d1, d2] => { results := [.lit (.bool false)], args := [d1, d2] }
  | _ => none }
def FnExactLibertiesOfWrongFalsely : Prop := fnExactLibertiesOfRow.holds Try.pinned (OpenSpec.ofChange fnExactLibertiesOfWrong)

/-- 'laws.FnExactGroupsOf': WHATEVER THE INPUT: true; the input reads as it did. -/
def fnExactGroupsOfSpec : ChangeSpec := { name := "fnExactGroupsOf", fn := fun _ => fun
  | [d1, d2] => { results := [.lit (.bool true)], args := [d1, d2] }
  | _ => none }
def fnExactGroupsOfRow : OpenClaim := { program := "ytoflbpihcfdcgaa", sum := "4aef1e309eccd06b4c2ba4f6112b6794f052946b6e157eaa5bb6bda95060c817", func := "loop.example/goboard/laws.FnExactGroupsOf", spec := "fnExactGroupsOf", apart := false }
def FnExactGroupsOfSaid : Prop := fnExactGroupsOfRow.holds Try.pinned (OpenSpec.ofChange fnExactGroupsOfSpec)

/-- ITS FALSE NEIGHBOUR: 'it returns false'. Refute it at one input. -/
def fnExactGroupsOfWrong : ChangeSpec := { name := "fnExactGroupsOf", fn := fun _ => fun
  | [d1, d2] => { results := [.lit (.bool false)], args := [d1, d2] }
  | _ => none }
def FnExactGroupsOfWrongFalsely : Prop := fnExactGroupsOfRow.holds Try.pinned (OpenSpec.ofChange fnExactGroupsOfWrong)

/-- 'laws.FnExactAtariGroups': WHATEVER THE INPUT: true; the input reads as it did. -/
def fnExactAtariGroupsSpec : ChangeSpec := { name := "fnExactAtariGroups", fn := fun _ => fun
  | [d1, d2] => { results := [.lit (.bool true)], args := [d1, d2] }
  | _ => none }
def fnExactAtariGroupsRow : OpenClaim := { program := "ytoflbpihcfdcgaa", sum := "4aef1e309eccd06b4c2ba4f6112b6794f052946b6e157eaa5bb6bda95060c817", func := "loop.example/goboard/laws.FnExactAtariGroups", spec := "fnExactAtariGroups", apart := false }
def FnExactAtariGroupsSaid : Prop := fnExactAtariGroupsRow.holds Try.pinned (OpenSpec.ofChange fnExactAtariGroupsSpec)

/-- ITS FALSE NEIGHBOUR: 'it returns false'. Refute it at one input. -/
def fnExactAtariGroupsWrong : ChangeSpec := { name := "fnExactAtariGroups", fn := fun _ => fun
  | [d1, d2] => { results := [.lit (.bool false)], args := [d1, d2] }
  | _ => none }
def FnExactAtariGroupsWrongFalsely : Prop := fnExactAtariGroupsRow.holds Try.pinned (OpenSpec.ofChange fnExactAtariGroupsWrong)

/-- 'laws.FnGroupOf': WHATEVER THE INPUT: true; the input reads as it did. -/
def fnGroupOfSpec : ChangeSpec := { name := "fnGroupOf", fn := fun _ => fun
  | [d] => { results := [.lit (.bool true)], args := [d] }
  | _ => none }
def fnGroupOfRow : OpenClaim := { program := "ytoflbpihcfdcgaa", sum := "4aef1e309eccd06b4c2ba4f6112b6794f052946b6e157eaa5bb6bda95060c817", func := "loop.example/goboard/laws.FnGroupOf", spec := "fnGroupOf", apart := false }
def FnGroupOfSaid : Prop := fnGroupOfRow.holds Try.pinned (OpenSpec.ofChange fnGroupOfSpec)

/-- ITS FALSE NEIGHBOUR: 'it returns false'. Refute it at one input. -/
def fnGroupOfWrong : ChangeSpec := { name := "fnGroupOf", fn := fun _ => fun
  | [d] => { results := [.lit (.bool false)], args := [d] }
  | _ => none }
def FnGroupOfWrongFalsely : Prop := fnGroupOfRow.holds Try.pinned (OpenSpec.ofChange fnGroupOfWrong)

/-- 'laws.FnLibertiesOf': WHATEVER THE INPUT: true; the input reads as it did. -/
def fnLibertiesOfSpec : ChangeSpec := { name := "fnLibertiesOf", fn := fun _ => fun
  | [d] => { results := [.lit (.bool true)], args := [d] }
  | _ => none }
def fnLibertiesOfRow : OpenClaim := { program := "ytoflbpihcfdcgaa", sum := "4aef1e309eccd06b4c2ba4f6112b6794f052946b6e157eaa5bb6bda95060c817", func := "loop.example/goboard/laws.FnLibertiesOf", spec := "fnLibertiesOf", apart := false }
def FnLibertiesOfSaid : Prop := fnLibertiesOfRow.holds Try.pinned (OpenSpec.ofChange fnLibertiesOfSpec)

/-- ITS FALSE NEIGHBOUR: 'it returns false'. Refute it at one input. -/
def fnLibertiesOfWrong : ChangeSpec := { name := "fnLibertiesOf", fn := fun _ => fun
  | [d] => { results := [.lit (.bool false)], args := [d] }
  | _ => none }
def FnLibertiesOfWrongFalsely : Prop := fnLibertiesOfRow.holds Try.pinned (OpenSpec.ofChange fnLibertiesOfWrong)

/-- 'laws.FnLibertiesOfImage': WHATEVER THE INPUT: true; the input reads as it did. -/
def fnLibertiesOfImageSpec : ChangeSpec := { name := "fnLibertiesOfImage", fn := fun _ => fun
  | [d] => { results := [.lit (.bool true)], args := [d] }
  | _ => none }
def fnLibertiesOfImageRow : OpenClaim := { program := "ytoflbpihcfdcgaa", sum := "4aef1e309eccd06b4c2ba4f6112b6794f052946b6e157eaa5bb6bda95060c817", func := "loop.example/goboard/laws.FnLibertiesOfImage", spec := "fnLibertiesOfImage", apart := false }
def FnLibertiesOfImageSaid : Prop := fnLibertiesOfImageRow.holds Try.pinned (OpenSpec.ofChange fnLibertiesOfImageSpec)

/-- ITS FALSE NEIGHBOUR: 'it returns false'. Refute it at one input. -/
def fnLibertiesOfImageWrong : ChangeSpec := { name := "fnLibertiesOfImage", fn := fun _ => fun
  | [d] => { results := [.lit (.bool false)], args := [d] }
  | _ => none }
def FnLibertiesOfImageWrongFalsely : Prop := fnLibertiesOfImageRow.holds Try.pinned (OpenSpec.ofChange fnLibertiesOfImageWrong)

/- THE SECOND FORM. 'bulk': how many values and letters a reading holds, each counted each time it is reached (what is shared counts as often as it is met; a slice's spare places count too). A statement '..UptoSaid' is the law's where the arguments, and the package variables that the reading takes, are together of bulk at most 1048576: NARROWER than '..Said'. Prove '..Said' where nothing that the law and all that it calls make is longer than what came in: it says more and counts as full. Else prove '..UptoSaid'. A law counts once. -/
mutual
def uptoBulk {H : Type} : DataW H → Nat
  | .lit (.string bytes) => bytes.length + 1
  | .lit _ => 1
  | .nil => 1
  | .ptr d => uptoBulk d + 1
  | .slice elems spare => uptoBulkAll elems + uptoBulkAll spare + 1
  | .agg parts => uptoBulkAll parts + 1
  | .iface _ d => uptoBulk d + 1
  | .map entries => uptoBulkEntries entries + 1
  | .held _ => 1
def uptoBulkAll {H : Type} : List (DataW H) → Nat
  | [] => 0
  | d :: r => uptoBulk d + uptoBulkAll r
def uptoBulkEntries {H : Type} : List (Lit × DataW H) → Nat
  | [] => 0
  | x :: r => uptoBulkEntry x + uptoBulkEntries r
def uptoBulkEntry {H : Type} : Lit × DataW H → Nat
  | (.string bytes, d) => bytes.length + uptoBulk d + 1
  | (_, d) => uptoBulk d + 1
 end
def uptoSmall : (H : Type) → List (DataW H) → Bool := fun _ ds => decide (uptoBulkAll ds ≤ 1048576)
def OpenSpec.upto (s : _root_.Go.ChangeSpec) : _root_.Go.OpenSpec := { _root_.Go.OpenSpec.ofChange s with cond := some uptoSmall }

/-- 'laws.FnTransformBoardTwice', WHERE WHAT IT READS IS OF BULK AT MOST 1048576: true; the input reads as it did. -/
def fnTransformBoardTwiceUptoRow : OpenClaim := { program := "ytoflbpihcfdcgaa", sum := "4aef1e309eccd06b4c2ba4f6112b6794f052946b6e157eaa5bb6bda95060c817", func := "loop.example/goboard/laws.FnTransformBoardTwice", spec := "fnTransformBoardTwice", apart := false, narrowed := true }
def FnTransformBoardTwiceUptoSaid : Prop := fnTransformBoardTwiceUptoRow.holds Try.pinned (OpenSpec.upto fnTransformBoardTwiceSpec)

/-- 'laws.FnTransformBoard', WHERE WHAT IT READS IS OF BULK AT MOST 1048576: true; the input reads as it did. -/
def fnTransformBoardUptoRow : OpenClaim := { program := "ytoflbpihcfdcgaa", sum := "4aef1e309eccd06b4c2ba4f6112b6794f052946b6e157eaa5bb6bda95060c817", func := "loop.example/goboard/laws.FnTransformBoard", spec := "fnTransformBoard", apart := false, narrowed := true }
def FnTransformBoardUptoSaid : Prop := fnTransformBoardUptoRow.holds Try.pinned (OpenSpec.upto fnTransformBoardSpec)

/-- 'laws.FnSetStone', WHERE WHAT IT READS IS OF BULK AT MOST 1048576: true; the input reads as it did. -/
def fnSetStoneUptoRow : OpenClaim := { program := "ytoflbpihcfdcgaa", sum := "4aef1e309eccd06b4c2ba4f6112b6794f052946b6e157eaa5bb6bda95060c817", func := "loop.example/goboard/laws.FnSetStone", spec := "fnSetStone", apart := false, narrowed := true }
def FnSetStoneUptoSaid : Prop := fnSetStoneUptoRow.holds Try.pinned (OpenSpec.upto fnSetStoneSpec)

/-- 'laws.FnSetStoneTwice', WHERE WHAT IT READS IS OF BULK AT MOST 1048576: true; the input reads as it did. -/
def fnSetStoneTwiceUptoRow : OpenClaim := { program := "ytoflbpihcfdcgaa", sum := "4aef1e309eccd06b4c2ba4f6112b6794f052946b6e157eaa5bb6bda95060c817", func := "loop.example/goboard/laws.FnSetStoneTwice", spec := "fnSetStoneTwice", apart := false, narrowed := true }
def FnSetStoneTwiceUptoSaid : Prop := fnSetStoneTwiceUptoRow.holds Try.pinned (OpenSpec.upto fnSetStoneTwiceSpec)

/-- 'laws.FnExactCanonicalBoard', WHERE WHAT IT READS IS OF BULK AT MOST 1048576: true; the input reads as it did. -/
def fnExactCanonicalBoardUptoRow : OpenClaim := { program := "ytoflbpihcfdcgaa", sum := "4aef1e309eccd06b4c2ba4f6112b6794f052946b6e157eaa5bb6bda95060c817", func := "loop.example/goboard/laws.FnExactCanonicalBoard", spec := "fnExactCanonicalBoard", apart := false, narrowed := true }
def FnExactCanonicalBoardUptoSaid : Prop := fnExactCanonicalBoardUptoRow.holds Try.pinned (OpenSpec.upto fnExactCanonicalBoardSpec)

/-- 'laws.FnExactGroupOf', WHERE WHAT IT READS IS OF BULK AT MOST 1048576: true; the input reads as it did. -/
def fnExactGroupOfUptoRow : OpenClaim := { program := "ytoflbpihcfdcgaa", sum := "4aef1e309eccd06b4c2ba4f6112b6794f052946b6e157eaa5bb6bda95060c817", func := "loop.example/goboard/laws.FnExactGroupOf", spec := "fnExactGroupOf", apart := false, narrowed := true }
def FnExactGroupOfUptoSaid : Prop := fnExactGroupOfUptoRow.holds Try.pinned (OpenSpec.upto fnExactGroupOfSpec)

/-- 'laws.FnExactLibertiesOf', WHERE WHAT IT READS IS OF BULK AT MOST 1048576: true; the input reads as it did. -/
def fnExactLibertiesOfUptoRow : OpenClaim := { program := "ytoflbpihcfdcgaa", sum := "4aef1e309eccd06b4c2ba4f6112b6794f052946b6e157eaa5bb6bda95060c817", func := "loop.example/goboard/laws.FnExactLibertiesOf", spec := "fnExactLibertiesOf", apart := false, narrowed := true }
def FnExactLibertiesOfUptoSaid : Prop := fnExactLibertiesOfUptoRow.holds Try.pinned (OpenSpec.upto fnExactLibertiesOfSpec)

/-- 'laws.FnExactGroupsOf', WHERE WHAT IT READS IS OF BULK AT MOST 1048576: true; the input reads as it did. -/
def fnExactGroupsOfUptoRow : OpenClaim := { program := "ytoflbpihcfdcgaa", sum := "4aef1e309eccd06b4c2ba4f6112b6794f052946b6e157eaa5bb6bda95060c817", func := "loop.example/goboard/laws.FnExactGroupsOf", spec := "fnExactGroupsOf", apart := false, narrowed := true }
def FnExactGroupsOfUptoSaid : Prop := fnExactGroupsOfUptoRow.holds Try.pinned (OpenSpec.upto fnExactGroupsOfSpec)

/-- 'laws.FnExactAtariGroups', WHERE WHAT IT READS IS OF BULK AT MOST 1048576: true; the input reads as it did. -/
def fnExactAtariGroupsUptoRow : OpenClaim := { program := "ytoflbpihcfdcgaa", sum := "4aef1e309eccd06b4c2ba4f6112b6794f052946b6e157eaa5bb6bda95060c817", func := "loop.example/goboard/laws.FnExactAtariGroups", spec := "fnExactAtariGroups", apart := false, narrowed := true }
def FnExactAtariGroupsUptoSaid : Prop := fnExactAtariGroupsUptoRow.holds Try.pinned (OpenSpec.upto fnExactAtariGroupsSpec)

/-- 'laws.FnGroupOf', WHERE WHAT IT READS IS OF BULK AT MOST 1048576: true; the input reads as it did. -/
def fnGroupOfUptoRow : OpenClaim := { program := "ytoflbpihcfdcgaa", sum := "4aef1e309eccd06b4c2ba4f6112b6794f052946b6e157eaa5bb6bda95060c817", func := "loop.example/goboard/laws.FnGroupOf", spec := "fnGroupOf", apart := false, narrowed := true }
def FnGroupOfUptoSaid : Prop := fnGroupOfUptoRow.holds Try.pinned (OpenSpec.upto fnGroupOfSpec)

/-- 'laws.FnLibertiesOf', WHERE WHAT IT READS IS OF BULK AT MOST 1048576: true; the input reads as it did. -/
def fnLibertiesOfUptoRow : OpenClaim := { program := "ytoflbpihcfdcgaa", sum := "4aef1e309eccd06b4c2ba4f6112b6794f052946b6e157eaa5bb6bda95060c817", func := "loop.example/goboard/laws.FnLibertiesOf", spec := "fnLibertiesOf", apart := false, narrowed := true }
def FnLibertiesOfUptoSaid : Prop := fnLibertiesOfUptoRow.holds Try.pinned (OpenSpec.upto fnLibertiesOfSpec)

/-- 'laws.FnLibertiesOfImage', WHERE WHAT IT READS IS OF BULK AT MOST 1048576: true; the input reads as it did. -/
def fnLibertiesOfImageUptoRow : OpenClaim := { program := "ytoflbpihcfdcgaa", sum := "4aef1e309eccd06b4c2ba4f6112b6794f052946b6e157eaa5bb6bda95060c817", func := "loop.example/goboard/laws.FnLibertiesOfImage", spec := "fnLibertiesOfImage", apart := false, narrowed := true }
def FnLibertiesOfImageUptoSaid : Prop := fnLibertiesOfImageUptoRow.holds Try.pinned (OpenSpec.upto fnLibertiesOfImageSpec)

end Rows
end Go.Proofs.Ytoflbpihcfdcgaa
