/-
  No cell of these rows narrows 'for every input' (looked for: loops, veiled, ifaces, maps, wideKeys, modest, calm, conditions, laid).
  DERIVED. THE GIVEN ROWS OF THIS SEAT. 10 by the template 'for every input the law returns true; each argument reads behind the call as it read before'; 0 by the template 'total and deterministic' (their statements: YtfpibldknjcehaaTotals.lean).
  GIVEN WITH THE SEED: the statements are not yours to turn. If you find one false, say at which input.
  Laid BY PROGRAM, IN A SANDBOX (cutbox-rows.mjs): the forced cells as the released guide's own fill.sh prints them over the translation 369817c0df5db23b… (all of the seat's roots in one cut). By AI agents, Wed Nov 11 2026. No macro, syntax, notation, axiom, sorry.
-/
import Derived.Test.YtfpibldknjcehaaChecked
import GoSem.Claim
import GoSem.ClaimJoined
import GoSem.ClaimMapViews
import Derived.JoinedTies
import Derived.KernelRfl
namespace Go.Proofs.Ytfpibldknjcehaa
/- THE CELL 'sum', in the pinned program and in every row, IS THE sha256 OF THE DUMP (.gsa) THAT YtfpibldknjcehaaProg.lean LOADS. Nothing in Lean hashes anything: it is a label: what it is worth is what the hold of that sum in a sandbox is worth. -/
noncomputable def Try.pinned : Pinned := { name := "ytfpibldknjcehaa", sum := "369817c0df5db23b840d38b82826ade374518773fca0df08be887f0b9419a804", checked := Try.checked }
namespace Rows
def none {H : Type} : Left H := { results := [], args := [] }

/-- 'laws.FnCanonicalBoard': WHATEVER THE INPUT: true; the input reads as it did. -/
def fnCanonicalBoardSpec : ChangeSpec := { name := "fnCanonicalBoard", fn := fun _ => fun
  | [d] => { results := [.lit (.bool true)], args := [d] }
  | _ => none }
def fnCanonicalBoardRow : OpenClaim := { program := "ytfpibldknjcehaa", sum := "369817c0df5db23b840d38b82826ade374518773fca0df08be887f0b9419a804", func := "loop.example/goboard/laws.FnCanonicalBoard", spec := "fnCanonicalBoard", apart := false }
def FnCanonicalBoardSaid : Prop := fnCanonicalBoardRow.holds Try.pinned (OpenSpec.ofChange fnCanonicalBoardSpec)

/-- ITS FALSE NEIGHBOUR: 'it returns false'. Refute it at one input. -/
def fnCanonicalBoardWrong : ChangeSpec := { name := "fnCanonicalBoard", fn := fun _ => fun
  | [d] => { results := [.lit (.bool false)], args := [d] }
  | _ => none }
def FnCanonicalBoardWrongFalsely : Prop := fnCanonicalBoardRow.holds Try.pinned (OpenSpec.ofChange fnCanonicalBoardWrong)

/-- 'laws.FnExactFormatBoard': WHATEVER THE INPUT: true; the input reads as it did. -/
def fnExactFormatBoardSpec : ChangeSpec := { name := "fnExactFormatBoard", fn := fun _ => fun
  | [d] => { results := [.lit (.bool true)], args := [d] }
  | _ => none }
def fnExactFormatBoardRow : OpenClaim := { program := "ytfpibldknjcehaa", sum := "369817c0df5db23b840d38b82826ade374518773fca0df08be887f0b9419a804", func := "loop.example/goboard/laws.FnExactFormatBoard", spec := "fnExactFormatBoard", inPlace := ["internal/abi.NoEscape"], apart := false }
def FnExactFormatBoardSaid : Prop := fnExactFormatBoardRow.holds Try.pinned (OpenSpec.ofChange fnExactFormatBoardSpec)

/-- ITS FALSE NEIGHBOUR: 'it returns false'. Refute it at one input. -/
def fnExactFormatBoardWrong : ChangeSpec := { name := "fnExactFormatBoard", fn := fun _ => fun
  | [d] => { results := [.lit (.bool false)], args := [d] }
  | _ => none }
def FnExactFormatBoardWrongFalsely : Prop := fnExactFormatBoardRow.holds Try.pinned (OpenSpec.ofChange fnExactFormatBoardWrong)

/-- 'laws.FnExactParseBoard': WHATEVER THE INPUT: true; the input reads as it did. -/
def fnExactParseBoardSpec : ChangeSpec := { name := "fnExactParseBoard", fn := fun _ => fun
  | [d] => { results := [.lit (.bool true)], args := [d] }
  | _ => none }
def fnExactParseBoardRow : OpenClaim := { program := "ytfpibldknjcehaa", sum := "369817c0df5db23b840d38b82826ade374518773fca0df08be887f0b9419a804", func := "loop.example/goboard/laws.FnExactParseBoard", spec := "fnExactParseBoard", inPlace := ["internal/bytealg.IndexByteString"], apart := false }
def FnExactParseBoardSaid : Prop := fnExactParseBoardRow.holds Try.pinned (OpenSpec.ofChange fnExactParseBoardSpec)

/-- ITS FALSE NEIGHBOUR: 'it returns false'. Refute it at one input. -/
def fnExactParseBoardWrong : ChangeSpec := { name := "fnExactParseBoard", fn := fun _ => fun
  | [d] => { results := [.lit (.bool false)], args := [d] }
  | _ => none }
def FnExactParseBoardWrongFalsely : Prop := fnExactParseBoardRow.holds Try.pinned (OpenSpec.ofChange fnExactParseBoardWrong)

/-- 'laws.FnExactEmptyRegions': WHATEVER THE INPUT: true; the input reads as it did. -/
def fnExactEmptyRegionsSpec : ChangeSpec := { name := "fnExactEmptyRegions", fn := fun _ => fun
  | [d] => { results := [.lit (.bool true)], args := [d] }
  | _ => none }
def fnExactEmptyRegionsRow : OpenClaim := { program := "ytfpibldknjcehaa", sum := "369817c0df5db23b840d38b82826ade374518773fca0df08be887f0b9419a804", func := "loop.example/goboard/laws.FnExactEmptyRegions", spec := "fnExactEmptyRegions", unfollowed := true, recurses := true, apart := false }
def FnExactEmptyRegionsSaid : Prop := fnExactEmptyRegionsRow.holds Try.pinned (OpenSpec.ofChange fnExactEmptyRegionsSpec)

/-- ITS FALSE NEIGHBOUR: 'it returns false'. Refute it at one input. -/
def fnExactEmptyRegionsWrong : ChangeSpec := { name := "fnExactEmptyRegions", fn := fun _ => fun
  | [d] => { results := [.lit (.bool false)], args := [d] }
  | _ => none }
def FnExactEmptyRegionsWrongFalsely : Prop := fnExactEmptyRegionsRow.holds Try.pinned (OpenSpec.ofChange fnExactEmptyRegionsWrong)

/-- 'laws.FnExactRegionsOf': WHATEVER THE INPUT: true; the input reads as it did. -/
def fnExactRegionsOfSpec : ChangeSpec := { name := "fnExactRegionsOf", fn := fun _ => fun
  | [d1, d2] => { results := [.lit (.bool true)], args := [d1, d2] }
  | _ => none }
def fnExactRegionsOfRow : OpenClaim := { program := "ytfpibldknjcehaa", sum := "369817c0df5db23b840d38b82826ade374518773fca0df08be887f0b9419a804", func := "loop.example/goboard/laws.FnExactRegionsOf", spec := "fnExactRegionsOf", unfollowed := true, recurses := true, apart := false }
def FnExactRegionsOfSaid : Prop := fnExactRegionsOfRow.holds Try.pinned (OpenSpec.ofChange fnExactRegionsOfSpec)

/-- ITS FALSE NEIGHBOUR: 'it returns false'. Refute it at one input. -/
def fnExactRegionsOfWrong : ChangeSpec := { name := "fnExactRegionsOf", fn := fun _ => fun
  | [d1, d2] => { results := [.lit (.bool false)], args := [d1, d2] }
  | _ => none }
def FnExactRegionsOfWrongFalsely : Prop := fnExactRegionsOfRow.holds Try.pinned (OpenSpec.ofChange fnExactRegionsOfWrong)

/-- 'laws.FnExactTerritoryOf': WHATEVER THE INPUT: true; the input reads as it did. -/
def fnExactTerritoryOfSpec : ChangeSpec := { name := "fnExactTerritoryOf", fn := fun _ => fun
  | [d1, d2] => { results := [.lit (.bool true)], args := [d1, d2] }
  | _ => none }
def fnExactTerritoryOfRow : OpenClaim := { program := "ytfpibldknjcehaa", sum := "369817c0df5db23b840d38b82826ade374518773fca0df08be887f0b9419a804", func := "loop.example/goboard/laws.FnExactTerritoryOf", spec := "fnExactTerritoryOf", unfollowed := true, recurses := true, apart := false }
def FnExactTerritoryOfSaid : Prop := fnExactTerritoryOfRow.holds Try.pinned (OpenSpec.ofChange fnExactTerritoryOfSpec)

/-- ITS FALSE NEIGHBOUR: 'it returns false'. Refute it at one input. -/
def fnExactTerritoryOfWrong : ChangeSpec := { name := "fnExactTerritoryOf", fn := fun _ => fun
  | [d1, d2] => { results := [.lit (.bool false)], args := [d1, d2] }
  | _ => none }
def FnExactTerritoryOfWrongFalsely : Prop := fnExactTerritoryOfRow.holds Try.pinned (OpenSpec.ofChange fnExactTerritoryOfWrong)

/-- 'laws.FnExactAreaScore': WHATEVER THE INPUT: true; the input reads as it did. -/
def fnExactAreaScoreSpec : ChangeSpec := { name := "fnExactAreaScore", fn := fun _ => fun
  | [d] => { results := [.lit (.bool true)], args := [d] }
  | _ => none }
def fnExactAreaScoreRow : OpenClaim := { program := "ytfpibldknjcehaa", sum := "369817c0df5db23b840d38b82826ade374518773fca0df08be887f0b9419a804", func := "loop.example/goboard/laws.FnExactAreaScore", spec := "fnExactAreaScore", unfollowed := true, recurses := true, apart := false }
def FnExactAreaScoreSaid : Prop := fnExactAreaScoreRow.holds Try.pinned (OpenSpec.ofChange fnExactAreaScoreSpec)

/-- ITS FALSE NEIGHBOUR: 'it returns false'. Refute it at one input. -/
def fnExactAreaScoreWrong : ChangeSpec := { name := "fnExactAreaScore", fn := fun _ => fun
  | [d] => { results := [.lit (.bool false)], args := [d] }
  | _ => none }
def FnExactAreaScoreWrongFalsely : Prop := fnExactAreaScoreRow.holds Try.pinned (OpenSpec.ofChange fnExactAreaScoreWrong)

/-- 'laws.FnGroupOf': WHATEVER THE INPUT: true; the input reads as it did. -/
def fnGroupOfSpec : ChangeSpec := { name := "fnGroupOf", fn := fun _ => fun
  | [d] => { results := [.lit (.bool true)], args := [d] }
  | _ => none }
def fnGroupOfRow : OpenClaim := { program := "ytfpibldknjcehaa", sum := "369817c0df5db23b840d38b82826ade374518773fca0df08be887f0b9419a804", func := "loop.example/goboard/laws.FnGroupOf", spec := "fnGroupOf", apart := false }
def FnGroupOfSaid : Prop := fnGroupOfRow.holds Try.pinned (OpenSpec.ofChange fnGroupOfSpec)

/-- ITS FALSE NEIGHBOUR: 'it returns false'. Refute it at one input. -/
def fnGroupOfWrong : ChangeSpec := { name := "fnGroupOf", fn := fun _ => fun
  | [d] => { results := [.lit (.bool false)], args := [d] }
  | _ => none }
def FnGroupOfWrongFalsely : Prop := fnGroupOfRow.holds Try.pinned (OpenSpec.ofChange fnGroupOfWrong)

/-- 'laws.FnAtariGroups': WHATEVER THE INPUT: true; the input reads as it did. -/
def fnAtariGroupsSpec : ChangeSpec := { name := "fnAtariGroups", fn := fun _ => fun
  | [d] => { results := [.lit (.bool true)], args := [d] }
  | _ => none }
def fnAtariGroupsRow : OpenClaim := { program := "ytfpibldknjcehaa", sum := "369817c0df5db23b840d38b82826ade374518773fca0df08be887f0b9419a804", func := "loop.example/goboard/laws.FnAtariGroups", spec := "fnAtariGroups", apart := false }
def FnAtariGroupsSaid : Prop := fnAtariGroupsRow.holds Try.pinned (OpenSpec.ofChange fnAtariGroupsSpec)

/-- ITS FALSE NEIGHBOUR: 'it returns false'. Refute it at one input. -/
def fnAtariGroupsWrong : ChangeSpec := { name := "fnAtariGroups", fn := fun _ => fun
  | [d] => { results := [.lit (.bool false)], args := [d] }
  | _ => none }
def FnAtariGroupsWrongFalsely : Prop := fnAtariGroupsRow.holds Try.pinned (OpenSpec.ofChange fnAtariGroupsWrong)

/-- 'laws.FnTerritoryOf': WHATEVER THE INPUT: true; the input reads as it did. -/
def fnTerritoryOfSpec : ChangeSpec := { name := "fnTerritoryOf", fn := fun _ => fun
  | [d] => { results := [.lit (.bool true)], args := [d] }
  | _ => none }
def fnTerritoryOfRow : OpenClaim := { program := "ytfpibldknjcehaa", sum := "369817c0df5db23b840d38b82826ade374518773fca0df08be887f0b9419a804", func := "loop.example/goboard/laws.FnTerritoryOf", spec := "fnTerritoryOf", unfollowed := true, recurses := true, apart := false }
def FnTerritoryOfSaid : Prop := fnTerritoryOfRow.holds Try.pinned (OpenSpec.ofChange fnTerritoryOfSpec)

/-- ITS FALSE NEIGHBOUR: 'it returns false'. Refute it at one input. -/
def fnTerritoryOfWrong : ChangeSpec := { name := "fnTerritoryOf", fn := fun _ => fun
  | [d] => { results := [.lit (.bool false)], args := [d] }
  | _ => none }
def FnTerritoryOfWrongFalsely : Prop := fnTerritoryOfRow.holds Try.pinned (OpenSpec.ofChange fnTerritoryOfWrong)

/- THE SECOND FORM. 'bulk': how many values and letters a reading holds, each counted each time it is reached (what is shared counts as often as it is met; a slice's spare places count too). A statement '..UptoSaid' is the law's where the arguments, and the package variables that the reading takes, are together of bulk at most 1048576: NARROWER than '..Said'. Prove '..Said' where nothing that the law and all that it calls make is longer than what came in: it says more and counts as full. Else prove '..UptoSaid'. A law counts once. -/
mutual
def uptoBulk {H : Type} : DataW H → Nat
  | .lit (.string bytes) => bytes.length + 1
  | .lit _ => 1
  | .nil => 1
  | .ptr d => uptoBulk d + 1
  | .slice elems spare => uptoBulkAll elems + uptoBulkAll spare + 1
  | .agg parts => uptoBulkAll parts + 1
  | .iface _ d => uptoBulk d + 1
  | .map entries => uptoBulkEntries entries + 1
  | .held _ => 1
def uptoBulkAll {H : Type} : List (DataW H) → Nat
  | [] => 0
  | d :: r => uptoBulk d + uptoBulkAll r
def uptoBulkEntries {H : Type} : List (Lit × DataW H) → Nat
  | [] => 0
  | x :: r => uptoBulkEntry x + uptoBulkEntries r
def uptoBulkEntry {H : Type} : Lit × DataW H → Nat
  | (.string bytes, d) => bytes.length + uptoBulk d + 1
  | (_, d) => uptoBulk d + 1
 end
def uptoSmall : (H : Type) → List (DataW H) → Bool := fun _ ds => decide (uptoBulkAll ds ≤ 1048576)
def OpenSpec.upto (s : _root_.Go.ChangeSpec) : _root_.Go.OpenSpec := { _root_.Go.OpenSpec.ofChange s with cond := some uptoSmall }

/-- 'laws.FnCanonicalBoard', WHERE WHAT IT READS IS OF BULK AT MOST 1048576: true; the input reads as it did. -/
def fnCanonicalBoardUptoRow : OpenClaim := { program := "ytfpibldknjcehaa", sum := "369817c0df5db23b840d38b82826ade374518773fca0df08be887f0b9419a804", func := "loop.example/goboard/laws.FnCanonicalBoard", spec := "fnCanonicalBoard", apart := false, narrowed := true }
def FnCanonicalBoardUptoSaid : Prop := fnCanonicalBoardUptoRow.holds Try.pinned (OpenSpec.upto fnCanonicalBoardSpec)

/-- 'laws.FnExactFormatBoard', WHERE WHAT IT READS IS OF BULK AT MOST 1048576: true; the input reads as it did. -/
def fnExactFormatBoardUptoRow : OpenClaim := { program := "ytfpibldknjcehaa", sum := "369817c0df5db23b840d38b82826ade374518773fca0df08be887f0b9419a804", func := "loop.example/goboard/laws.FnExactFormatBoard", spec := "fnExactFormatBoard", inPlace := ["internal/abi.NoEscape"], apart := false, narrowed := true }
def FnExactFormatBoardUptoSaid : Prop := fnExactFormatBoardUptoRow.holds Try.pinned (OpenSpec.upto fnExactFormatBoardSpec)

/-- 'laws.FnExactParseBoard', WHERE WHAT IT READS IS OF BULK AT MOST 1048576: true; the input reads as it did. -/
def fnExactParseBoardUptoRow : OpenClaim := { program := "ytfpibldknjcehaa", sum := "369817c0df5db23b840d38b82826ade374518773fca0df08be887f0b9419a804", func := "loop.example/goboard/laws.FnExactParseBoard", spec := "fnExactParseBoard", inPlace := ["internal/bytealg.IndexByteString"], apart := false, narrowed := true }
def FnExactParseBoardUptoSaid : Prop := fnExactParseBoardUptoRow.holds Try.pinned (OpenSpec.upto fnExactParseBoardSpec)

/-- 'laws.FnExactEmptyRegions', WHERE WHAT IT READS IS OF BULK AT MOST 1048576: true; the input reads as it did. -/
def fnExactEmptyRegionsUptoRow : OpenClaim := { program := "ytfpibldknjcehaa", sum := "369817c0df5db23b840d38b82826ade374518773fca0df08be887f0b9419a804", func := "loop.example/goboard/laws.FnExactEmptyRegions", spec := "fnExactEmptyRegions", unfollowed := true, recurses := true, apart := false, narrowed := true }
def FnExactEmptyRegionsUptoSaid : Prop := fnExactEmptyRegionsUptoRow.holds Try.pinned (OpenSpec.upto fnExactEmptyRegionsSpec)

/-- 'laws.FnExactRegionsOf', WHERE WHAT IT READS IS OF BULK AT MOST 1048576: true; the input reads as it did. -/
def fnExactRegionsOfUptoRow : OpenClaim := { program := "ytfpibldknjcehaa", sum := "369817c0df5db23b840d38b82826ade374518773fca0df08be887f0b9419a804", func := "loop.example/goboard/laws.FnExactRegionsOf", spec := "fnExactRegionsOf", unfollowed := true, recurses := true, apart := false, narrowed := true }
def FnExactRegionsOfUptoSaid : Prop := fnExactRegionsOfUptoRow.holds Try.pinned (OpenSpec.upto fnExactRegionsOfSpec)

/-- 'laws.FnExactTerritoryOf', WHERE WHAT IT READS IS OF BULK AT MOST 1048576: true; the input reads as it did. -/
def fnExactTerritoryOfUptoRow : OpenClaim := { program := "ytfpibldknjcehaa", sum := "369817c0df5db23b840d38b82826ade374518773fca0df08be887f0b9419a804", func := "loop.example/goboard/laws.FnExactTerritoryOf", spec := "fnExactTerritoryOf", unfollowed := true, recurses := true, apart := false, narrowed := true }
def FnExactTerritoryOfUptoSaid : Prop := fnExactTerritoryOfUptoRow.holds Try.pinned (OpenSpec.upto fnExactTerritoryOfSpec)

/-- 'laws.FnExactAreaScore', WHERE WHAT IT READS IS OF BULK AT MOST 1048576: true; the input reads as it did. -/
def fnExactAreaScoreUptoRow : OpenClaim := { program := "ytfpibldknjcehaa", sum := "369817c0df5db23b840d38b82826ade374518773fca0df08be887f0b9419a804", func := "loop.example/goboard/laws.FnExactAreaScore", spec := "fnExactAreaScore", unfollowed := true, recurses := true, apart := false, narrowed := true }
def FnExactAreaScoreUptoSaid : Prop := fnExactAreaScoreUptoRow.holds Try.pinned (OpenSpec.upto fnExactAreaScoreSpec)

/-- 'laws.FnGroupOf', WHERE WHAT IT READS IS OF BULK AT MOST 1048576: true; the input reads as it did. -/
def fnGroupOfUptoRow : OpenClaim := { program := "ytfpibldknjcehaa", sum := "369817c0df5db23b840d38b82826ade374518773fca0df08be887f0b9419a804", func := "loop.example/goboard/laws.FnGroupOf", spec := "fnGroupOf", apart := false, narrowed := true }
def FnGroupOfUptoSaid : Prop := fnGroupOfUptoRow.holds Try.pinned (OpenSpec.upto fnGroupOfSpec)

/-- 'laws.FnAtariGroups', WHERE WHAT IT READS IS OF BULK AT MOST 1048576: true; the input reads as it did. -/
def fnAtariGroupsUptoRow : OpenClaim := { program := "ytfpibldknjcehaa", sum := "369817c0df5db23b840d38b82826ade374518773fca0df08be887f0b9419a804", func := "loop.example/goboard/laws.FnAtariGroups", spec := "fnAtariGroups", apart := false, narrowed := true }
def FnAtariGroupsUptoSaid : Prop := fnAtariGroupsUptoRow.holds Try.pinned (OpenSpec.upto fnAtariGroupsSpec)

/-- 'laws.FnTerritoryOf', WHERE WHAT IT READS IS OF BULK AT MOST 1048576: true; the input reads as it did. -/
def fnTerritoryOfUptoRow : OpenClaim := { program := "ytfpibldknjcehaa", sum := "369817c0df5db23b840d38b82826ade374518773fca0df08be887f0b9419a804", func := "loop.example/goboard/laws.FnTerritoryOf", spec := "fnTerritoryOf", unfollowed := true, recurses := true, apart := false, narrowed := true }
def FnTerritoryOfUptoSaid : Prop := fnTerritoryOfUptoRow.holds Try.pinned (OpenSpec.upto fnTerritoryOfSpec)

end Rows
end Go.Proofs.Ytfpibldknjcehaa
