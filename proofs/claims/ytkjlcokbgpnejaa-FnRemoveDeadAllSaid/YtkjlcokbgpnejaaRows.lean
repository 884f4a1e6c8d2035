/-
  No cell of these rows narrows 'for every input' (looked for: loops, veiled, ifaces, maps, wideKeys, modest, calm, conditions, laid).
  DERIVED. THE GIVEN ROWS OF THIS SEAT. 8 by the template 'for every input the law returns true; each argument reads behind the call as it read before'; 0 by the template 'total and deterministic' (their statements: YtkjlcokbgpnejaaTotals.lean).
  GIVEN WITH THE SEED: the statements are not yours to turn. If you find one false, say at which input.
  Laid BY PROGRAM, IN A SANDBOX (cutbox-rows.mjs): the forced cells as the released guide's own fill.sh prints them over the translation 0cefbb1e9b99df41… (all of the seat's roots in one cut). By AI agents, Wed Nov 11 2026. No macro, syntax, notation, axiom, sorry.
-/
import Derived.Test.YtkjlcokbgpnejaaChecked
import GoSem.Claim
import GoSem.ClaimJoined
import GoSem.ClaimMapViews
import Derived.JoinedTies
import Derived.KernelRfl
namespace Go.Proofs.Ytkjlcokbgpnejaa
/- THE CELL 'sum', in the pinned program and in every row, IS THE sha256 OF THE DUMP (.gsa) THAT YtkjlcokbgpnejaaProg.lean LOADS. Nothing in Lean hashes anything: it is a label: what it is worth is what the hold of that sum in a sandbox is worth. -/
noncomputable def Try.pinned : Pinned := { name := "ytkjlcokbgpnejaa", sum := "0cefbb1e9b99df419acd751b2bd3a928cd185276a3b95e6fbb06333ebc27012b", checked := Try.checked }
namespace Rows
def none {H : Type} : Left H := { results := [], args := [] }

/-- 'laws.FnExactRegionsOf': WHATEVER THE INPUT: true; the input reads as it did. -/
def fnExactRegionsOfSpec : ChangeSpec := { name := "fnExactRegionsOf", fn := fun _ => fun
  | [d1, d2] => { results := [.lit (.bool true)], args := [d1, d2] }
  | _ => none }
def fnExactRegionsOfRow : OpenClaim := { program := "ytkjlcokbgpnejaa", sum := "0cefbb1e9b99df419acd751b2bd3a928cd185276a3b95e6fbb06333ebc27012b", func := "loop.example/goboard/laws.FnExactRegionsOf", spec := "fnExactRegionsOf", unfollowed := true, recurses := true, apart := false }
def FnExactRegionsOfSaid : Prop := fnExactRegionsOfRow.holds Try.pinned (OpenSpec.ofChange fnExactRegionsOfSpec)

/-- ITS FALSE NEIGHBOUR: 'it returns false'. Refute it at one input. -/
def fnExactRegionsOfWrong : ChangeSpec := { name := "fnExactRegionsOf", fn := fun _ => fun
  | [d1, d2] => { results := [.lit (.bool false)], args := [d1, d2] }
  | _ => none }
def FnExactRegionsOfWrongFalsely : Prop := fnExactRegionsOfRow.holds Try.pinned (OpenSpec.ofChange fnExactRegionsOfWrong)

/-- 'laws.FnExactTerritoryOf': WHATEVER THE INPUT: true; the input reads as it did. -/
def fnExactTerritoryOfSpec : ChangeSpec := { name := "fnExactTerritoryOf", fn := fun _ => fun
  | [d1, d2] => { results := [.lit (.bool true)], args := [d1, d2] }
  | _ => none }
def fnExactTerritoryOfRow : OpenClaim := { program := "ytkjlcokbgpnejaa", sum := "0cefbb1e9b99df419acd751b2bd3a928cd185276a3b95e6fbb06333ebc27012b", func := "loop.example/goboard/laws.FnExactTerritoryOf", spec := "fnExactTerritoryOf", unfollowed := true, recurses := true, apart := false }
def FnExactTerritoryOfSaid : Prop := fnExactTerritoryOfRow.holds Try.pinned (OpenSpec.ofChange fnExactTerritoryOfSpec)

/-- ITS FALSE NEIGHBOUR: 'it returns false'. Refute it at one input. -/
def fnExactTerritoryOfWrong : ChangeSpec := { name := "fnExactTerritoryOf", fn := fun _ => fun
  | [d1, d2] => { results := [.lit (.bool false)], args := [d1, d2] }
  | _ => none }
def FnExactTerritoryOfWrongFalsely : Prop := fnExactTerritoryOfRow.holds Try.pinned (OpenSpec.ofChange fnExactTerritoryOfWrong)

/-- 'laws.FnExactAreaScore': WHATEVER THE INPUT: true; the input reads as it did. -/
def fnExactAreaScoreSpec : ChangeSpec := { name := "fnExactAreaScore", fn := fun _ => fun
  | [d] => { results := [.lit (.bool true)], args := [d] }
  | _ => none }
def fnExactAreaScoreRow : OpenClaim := { program := "ytkjlcokbgpnejaa", sum := "0cefbb1e9b99df419acd751b2bd3a928cd185276a3b95e6fbb06333ebc27012b", func := "loop.example/goboard/laws.FnExactAreaScore", spec := "fnExactAreaScore", unfollowed := true, recurses := true, apart := false }
def FnExactAreaScoreSaid : Prop := fnExactAreaScoreRow.holds Try.pinned (OpenSpec.ofChange fnExactAreaScoreSpec)

/-- ITS FALSE NEIGHBOUR: 'it returns false'. Refute it at one input. -/
def fnExactAreaScoreWrong : ChangeSpec := { name := "fnExactAreaScore", fn := fun _ => fun
  | [d] => { results := [.lit (.bool false)], args := [d] }
  | _ => none }
def FnExactAreaScoreWrongFalsely : Prop := fnExactAreaScoreRow.holds Try.pinned (OpenSpec.ofChange fnExactAreaScoreWrong)

/-- 'laws.FnAreaScoreParts': WHATEVER THE INPUT: true; the input reads as it did. -/
def fnAreaScorePartsSpec : ChangeSpec := { name := "fnAreaScoreParts", fn := fun _ => fun
  | [d] => { results := [.lit (.bool true)], args := [d] }
  | _ => none }
def fnAreaScorePartsRow : OpenClaim := { program := "ytkjlcokbgpnejaa", sum := "0cefbb1e9b99df419acd751b2bd3a928cd185276a3b95e6fbb06333ebc27012b", func := "loop.example/goboard/laws.FnAreaScoreParts", spec := "fnAreaScoreParts", unfollowed := true, recurses := true, apart := false }
def FnAreaScorePartsSaid : Prop := fnAreaScorePartsRow.holds Try.pinned (OpenSpec.ofChange fnAreaScorePartsSpec)

/-- ITS FALSE NEIGHBOUR: 'it returns false'. Refute it at one input. -/
def fnAreaScorePartsWrong : ChangeSpec := { name := "fnAreaScoreParts", fn := fun _ => fun
  | [d] => { results := [.lit (.bool false)], args := [d] }
  | _ => none }
def FnAreaScorePartsWrongFalsely : Prop := fnAreaScorePartsRow.holds Try.pinned (OpenSpec.ofChange fnAreaScorePartsWrong)

/-- 'laws.FnExactTerritoryMargin': WHATEVER THE INPUT: true; the input reads as it did. -/
def fnExactTerritoryMarginSpec : ChangeSpec := { name := "fnExactTerritoryMargin", fn := fun _ => fun
  | [d1, d2, d3, d4, d5] => { results := [.lit (.bool true)], args := [d1, d2, d3, d4, d5] }
  | _ => none }
def fnExactTerritoryMarginRow : OpenClaim := { program := "ytkjlcokbgpnejaa", sum := "0cefbb1e9b99df419acd751b2bd3a928cd185276a3b95e6fbb06333ebc27012b", func := "loop.example/goboard/laws.FnExactTerritoryMargin", spec := "fnExactTerritoryMargin", unfollowed := true, recurses := true, apart := false }
def FnExactTerritoryMarginSaid : Prop := fnExactTerritoryMarginRow.holds Try.pinned (OpenSpec.ofChange fnExactTerritoryMarginSpec)

/-- ITS FALSE NEIGHBOUR: 'it returns false'. Refute it at one input. -/
def fnExactTerritoryMarginWrong : ChangeSpec := { name := "fnExactTerritoryMargin", fn := fun _ => fun
  | [d1, d2, d3, d4, d5] => { results := [.lit (.bool false)], args := [d1, d2, d3, d4, d5] }
  | _ => none }
def FnExactTerritoryMarginWrongFalsely : Prop := fnExactTerritoryMarginRow.holds Try.pinned (OpenSpec.ofChange fnExactTerritoryMarginWrong)

/-- 'laws.FnTerritoryMargin': WHATEVER THE INPUT: true; the input reads as it did. -/
def fnTerritoryMarginSpec : ChangeSpec := { name := "fnTerritoryMargin", fn := fun _ => fun
  | [d] => { results := [.lit (.bool true)], args := [d] }
  | _ => none }
def fnTerritoryMarginRow : OpenClaim := { program := "ytkjlcokbgpnejaa", sum := "0cefbb1e9b99df419acd751b2bd3a928cd185276a3b95e6fbb06333ebc27012b", func := "loop.example/goboard/laws.FnTerritoryMargin", spec := "fnTerritoryMargin", unfollowed := true, recurses := true, apart := false }
def FnTerritoryMarginSaid : Prop := fnTerritoryMarginRow.holds Try.pinned (OpenSpec.ofChange fnTerritoryMarginSpec)

/-- ITS FALSE NEIGHBOUR: 'it returns false'. Refute it at one input. -/
def fnTerritoryMarginWrong : ChangeSpec := { name := "fnTerritoryMargin", fn := fun _ => fun
  | [d] => { results := [.lit (.bool false)], args := [d] }
  | _ => none }
def FnTerritoryMarginWrongFalsely : Prop := fnTerritoryMarginRow.holds Try.pinned (OpenSpec.ofChange fnTerritoryMarginWrong)

/-- 'laws.FnRemoveDead': WHATEVER THE INPUT: true; the input reads as it did. -/
def fnRemoveDeadSpec : ChangeSpec := { name := "fnRemoveDead", fn := fun _ => fun
  | [d] => { results := [.lit (.bool true)], args := [d] }
  | _ => none }
def fnRemoveDeadRow : OpenClaim := { program := "ytkjlcokbgpnejaa", sum := "0cefbb1e9b99df419acd751b2bd3a928cd185276a3b95e6fbb06333ebc27012b", func := "loop.example/goboard/laws.FnRemoveDead", spec := "fnRemoveDead", apart := false }
def FnRemoveDeadSaid : Prop := fnRemoveDeadRow.holds Try.pinned (OpenSpec.ofChange fnRemoveDeadSpec)

/-- ITS FALSE NEIGHBOUR: 'it returns false'. Refute it at one input. -/
def fnRemoveDeadWrong : ChangeSpec := { name := "fnRemoveDead", fn := fun _ => fun
  | [d] => { results := [.lit (.bool false)], args := [d] }
  | _ => none }
def FnRemoveDeadWrongFalsely : Prop := fnRemoveDeadRow.holds Try.pinned (OpenSpec.ofChange fnRemoveDeadWrong)

/-- 'laws.FnRemoveDeadAll': WHATEVER THE INPUT: true; the input reads as it did. -/
def fnRemoveDeadAllSpec : ChangeSpec := { name := "fnRemoveDeadAll", fn := fun _ => fun
  | [d] => { results := [.lit (.bool true)], args := [d] }
  | _ => none }
def fnRemoveDeadAllRow : OpenClaim := { program := "ytkjlcokbgpnejaa", sum := "0cefbb1e9b99df419acd751b2bd3a928cd185276a3b95e6fbb06333ebc27012b", func := "loop.example/goboard/laws.FnRemoveDeadAll", spec := "fnRemoveDeadAll", unfollowed := true, recurses := true, apart := false }
def FnRemoveDeadAllSaid : Prop := fnRemoveDeadAllRow.holds Try.pinned (OpenSpec.ofChange fnRemoveDeadAllSpec)

/-- ITS FALSE NEIGHBOUR: 'it returns false'. Refute it at one input. -/
def fnRemoveDeadAllWrong : ChangeSpec := { name := "fnRemoveDeadAll", fn := fun _ => fun
  | [d] => { results := [.lit (.bool false)], args := [d] }
  | _ => none }
def FnRemoveDeadAllWrongFalsely : Prop := fnRemoveDeadAllRow.holds Try.pinned (OpenSpec.ofChange fnRemoveDeadAllWrong)

/- THE SECOND FORM. 'bulk': how many values and letters a reading holds, each counted each time it is reached (what is shared counts as often as it is met; a slice's spare places count too). A statement '..UptoSaid' is the law's where the arguments, and the package variables that the reading takes, are together of bulk at most 1048576: NARROWER than '..Said'. Prove '..Said' where nothing that the law and all that it calls make is longer than what came in: it says more and counts as full. Else prove '..UptoSaid'. A law counts once. -/
mutual
def uptoBulk {H : Type} : DataW H → Nat
  | .lit (.string bytes) => bytes.length + 1
  | .lit _ => 1
  | .nil => 1
  | .ptr d => uptoBulk d + 1
  | .slice elems spare => uptoBulkAll elems + uptoBulkAll spare + 1
  | .agg parts => uptoBulkAll parts + 1
  | .iface _ d => uptoBulk d + 1
  | .map entries => uptoBulkEntries entries + 1
  | .held _ => 1
def uptoBulkAll {H : Type} : List (DataW H) → Nat
  | [] => 0
  | d :: r => uptoBulk d + uptoBulkAll r
def uptoBulkEntries {H : Type} : List (Lit × DataW H) → Nat
  | [] => 0
  | x :: r => uptoBulkEntry x + uptoBulkEntries r
def uptoBulkEntry {H : Type} : Lit × DataW H → Nat
  | (.string bytes, d) => bytes.length + uptoBulk d + 1
  | (_, d) => uptoBulk d + 1
 end
def uptoSmall : (H : Type) → List (DataW H) → Bool := fun _ ds => decide (uptoBulkAll ds ≤ 1048576)
def OpenSpec.upto (s : _root_.Go.ChangeSpec) : _root_.Go.OpenSpec := { _root_.Go.OpenSpec.ofChange s with cond := some uptoSmall }

/-- 'laws.FnExactRegionsOf', WHERE WHAT IT READS IS OF BULK AT MOST 1048576: true; the input reads as it did. -/
def fnExactRegionsOfUptoRow : OpenClaim := { program := "ytkjlcokbgpnejaa", sum := "0cefbb1e9b99df419acd751b2bd3a928cd185276a3b95e6fbb06333ebc27012b", func := "loop.example/goboard/laws.FnExactRegionsOf", spec := "fnExactRegionsOf", unfollowed := true, recurses := true, apart := false, narrowed := true }
def FnExactRegionsOfUptoSaid : Prop := fnExactRegionsOfUptoRow.holds Try.pinned (OpenSpec.upto fnExactRegionsOfSpec)

/-- 'laws.FnExactTerritoryOf', WHERE WHAT IT READS IS OF BULK AT MOST 1048576: true; the input reads as it did. -/
def fnExactTerritoryOfUptoRow : OpenClaim := { program := "ytkjlcokbgpnejaa", sum := "0cefbb1e9b99df419acd751b2bd3a928cd185276a3b95e6fbb06333ebc27012b", func := "loop.example/goboard/laws.FnExactTerritoryOf", spec := "fnExactTerritoryOf", unfollowed := true, recurses := true, apart := false, narrowed := true }
def FnExactTerritoryOfUptoSaid : Prop := fnExactTerritoryOfUptoRow.holds Try.pinned (OpenSpec.upto fnExactTerritoryOfSpec)

/-- 'laws.FnExactAreaScore', WHERE WHAT IT READS IS OF BULK AT MOST 1048576: true; the input reads as it did. -/
def fnExactAreaScoreUptoRow : OpenClaim := { program := "ytkjlcokbgpnejaa", sum := "0cefbb1e9b99df419acd751b2bd3a928cd185276a3b95e6fbb06333ebc27012b", func := "loop.example/goboard/laws.FnExactAreaScore", spec := "fnExactAreaScore", unfollowed := true, recurses := true, apart := false, narrowed := true }
def FnExactAreaScoreUptoSaid : Prop := fnExactAreaScoreUptoRow.holds Try.pinned (OpenSpec.upto fnExactAreaScoreSpec)

/-- 'laws.FnAreaScoreParts', WHERE WHAT IT READS IS OF BULK AT MOST 1048576: true; the input reads as it did. -/
def fnAreaScorePartsUptoRow : OpenClaim := { program := "ytkjlcokbgpnejaa", sum := "0cefbb1e9b99df419acd751b2bd3a928cd185276a3b95e6fbb06333ebc27012b", func := "loop.example/goboard/laws.FnAreaScoreParts", spec := "fnAreaScoreParts", unfollowed := true, recurses := true, apart := false, narrowed := true }
def FnAreaScorePartsUptoSaid : Prop := fnAreaScorePartsUptoRow.holds Try.pinned (OpenSpec.upto fnAreaScorePartsSpec)

/-- 'laws.FnExactTerritoryMargin', WHERE WHAT IT READS IS OF BULK AT MOST 1048576: true; the input reads as it did. -/
def fnExactTerritoryMarginUptoRow : OpenClaim := { program := "ytkjlcokbgpnejaa", sum := "0cefbb1e9b99df419acd751b2bd3a928cd185276a3b95e6fbb06333ebc27012b", func := "loop.example/goboard/laws.FnExactTerritoryMargin", spec := "fnExactTerritoryMargin", unfollowed := true, recurses := true, apart := false, narrowed := true }
def FnExactTerritoryMarginUptoSaid : Prop := fnExactTerritoryMarginUptoRow.holds Try.pinned (OpenSpec.upto fnExactTerritoryMarginSpec)

/-- 'laws.FnTerritoryMargin', WHERE WHAT IT READS IS OF BULK AT MOST 1048576: true; the input reads as it did. -/
def fnTerritoryMarginUptoRow : OpenClaim := { program := "ytkjlcokbgpnejaa", sum := "0cefbb1e9b99df419acd751b2bd3a928cd185276a3b95e6fbb06333ebc27012b", func := "loop.example/goboard/laws.FnTerritoryMargin", spec := "fnTerritoryMargin", unfollowed := true, recurses := true, apart := false, narrowed := true }
def FnTerritoryMarginUptoSaid : Prop := fnTerritoryMarginUptoRow.holds Try.pinned (OpenSpec.upto fnTerritoryMarginSpec)

/-- 'laws.FnRemoveDead', WHERE WHAT IT READS IS OF BULK AT MOST 1048576: true; the input reads as it did. -/
def fnRemoveDeadUptoRow : OpenClaim := { program := "ytkjlcokbgpnejaa", sum := "0cefbb1e9b99df419acd751b2bd3a928cd185276a3b95e6fbb06333ebc27012b", func := "loop.example/goboard/laws.FnRemoveDead", spec := "fnRemoveDead", apart := false, narrowed := true }
def FnRemoveDeadUptoSaid : Prop := fnRemoveDeadUptoRow.holds Try.pinned (OpenSpec.upto fnRemoveDeadSpec)

/-- 'laws.FnRemoveDeadAll', WHERE WHAT IT READS IS OF BULK AT MOST 1048576: true; the input reads as it did. -/
def fnRemoveDeadAllUptoRow : OpenClaim := { program := "ytkjlcokbgpnejaa", sum := "0cefbb1e9b99df419acd751b2bd3a928cd185276a3b95e6fbb06333ebc27012b", func := "loop.example/goboard/laws.FnRemoveDeadAll", spec := "fnRemoveDeadAll", unfollowed := true, recurses := true, apart := false, narrowed := true }
def FnRemoveDeadAllUptoSaid : Prop := fnRemoveDeadAllUptoRow.holds Try.pinned (OpenSpec.upto fnRemoveDeadAllSpec)

end Rows
end Go.Proofs.Ytkjlcokbgpnejaa
