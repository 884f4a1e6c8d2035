/-
  No cell of these rows narrows 'for every input' (looked for: loops, veiled, ifaces, maps, wideKeys, modest, calm, conditions, laid).
  DERIVED. THE GIVEN ROWS OF THIS SEAT. 2 by the template 'for every input the law returns true; each argument reads behind the call as it read before'; 0 by the template 'total and deterministic' (their statements: YtmddkifadknlfaaTotals.lean).
  GIVEN WITH THE SEED: the statements are not yours to turn. If you find one false, say at which input.
  Laid BY PROGRAM, IN A SANDBOX (cutbox-rows.mjs): the forced cells as the released guide's own fill.sh prints them over the translation 880cea1c1ef90792… (all of the seat's roots in one cut). By AI agents, Wed Nov 11 2026. No macro, syntax, notation, axiom, sorry.
-/
import Derived.Test.YtmddkifadknlfaaChecked
import GoSem.Claim
import GoSem.ClaimJoined
import GoSem.ClaimMapViews
import Derived.JoinedTies
import Derived.KernelRfl
namespace Go.Proofs.Ytmddkifadknlfaa
/- THE CELL 'sum', in the pinned program and in every row, IS THE sha256 OF THE DUMP (.gsa) THAT YtmddkifadknlfaaProg.lean LOADS. Nothing in Lean hashes anything: it is a label: what it is worth is what the hold of that sum in a sandbox is worth. -/
noncomputable def Try.pinned : Pinned := { name := "ytmddkifadknlfaa", sum := "880cea1c1ef9079289e5dab8e87d9d39448b3e8df4c4371be44da299c0294f18", checked := Try.checked }
namespace Rows
def none {H : Type} : Left H := { results := [], args := [] }

/-- 'laws.FnValidBoard': WHATEVER THE INPUT: true; the input reads as it did. -/
def fnValidBoardSpec : ChangeSpec := { name := "fnValidBoard", fn := fun _ => fun
  | [d] => { results := [.lit (.bool true)], args := [d] }
  | _ => none }
def fnValidBoardRow : OpenClaim := { program := "ytmddkifadknlfaa", sum := "880cea1c1ef9079289e5dab8e87d9d39448b3e8df4c4371be44da299c0294f18", func := "loop.example/goboard/laws.FnValidBoard", spec := "fnValidBoard", inPlace := ["internal/abi.NoEscape"], apart := false }
def FnValidBoardSaid : Prop := fnValidBoardRow.holds Try.pinned (OpenSpec.ofChange fnValidBoardSpec)

/-- ITS FALSE NEIGHBOUR: 'it returns false'. Refute it at one input. -/
def fnValidBoardWrong : ChangeSpec := { name := "fnValidBoard", fn := fun _ => fun
  | [d] => { results := [.lit (.bool false)], args := [d] }
  | _ => none }
def FnValidBoardWrongFalsely : Prop := fnValidBoardRow.holds Try.pinned (OpenSpec.ofChange fnValidBoardWrong)

/-- 'laws.FnBoardNew': WHATEVER THE INPUT: true; the input reads as it did. -/
def fnBoardNewSpec : ChangeSpec := { name := "fnBoardNew", fn := fun _ => fun
  | [d] => { results := [.lit (.bool true)], args := [d] }
  | _ => none }
def fnBoardNewRow : OpenClaim := { program := "ytmddkifadknlfaa", sum := "880cea1c1ef9079289e5dab8e87d9d39448b3e8df4c4371be44da299c0294f18", func := "loop.example/goboard/laws.FnBoardNew", spec := "fnBoardNew", apart := false }
def FnBoardNewSaid : Prop := fnBoardNewRow.holds Try.pinned (OpenSpec.ofChange fnBoardNewSpec)

/-- ITS FALSE NEIGHBOUR: 'it returns false'. Refute it at one input. -/
def fnBoardNewWrong : ChangeSpec := { name := "fnBoardNew", fn := fun _ => fun
  | [d] => { results := [.lit (.bool false)], args := [d] }
  | _ => none }
def FnBoardNewWrongFalsely : Prop := fnBoardNewRow.holds Try.pinned (OpenSpec.ofChange fnBoardNewWrong)

/- THE SECOND FORM. 'bulk': how many values and letters a reading holds, each counted each time it is reached (what is shared counts as often as it is met; a slice's spare places count too). A statement '..UptoSaid' is the law's where the arguments, and the package variables that the reading takes, are together of bulk at most 1048576: NARROWER than '..Said'. Prove '..Said' where nothing that the law and all that it calls make is longer than what came in: it says more and counts as full. Else prove '..UptoSaid'. A law counts once. -/
mutual
def uptoBulk {H : Type} : DataW H → Nat
  | .lit (.string bytes) => bytes.length + 1
  | .lit _ => 1
  | .nil => 1
  | .ptr d => uptoBulk d + 1
  | .slice elems spare => uptoBulkAll elems + uptoBulkAll spare + 1
  | .agg parts => uptoBulkAll parts + 1
  | .iface _ d => uptoBulk d + 1
  | .map entries => uptoBulkEntries entries + 1
  | .held _ => 1
def uptoBulkAll {H : Type} : List (DataW H) → Nat
  | [] => 0
  | d :: r => uptoBulk d + uptoBulkAll r
def uptoBulkEntries {H : Type} : List (Lit × DataW H) → Nat
  | [] => 0
  | x :: r => uptoBulkEntry x + uptoBulkEntries r
def uptoBulkEntry {H : Type} : Lit × DataW H → Nat
  | (.string bytes, d) => bytes.length + uptoBulk d + 1
  | (_, d) => uptoBulk d + 1
 end
def uptoSmall : (H : Type) → List (DataW H) → Bool := fun _ ds => decide (uptoBulkAll ds ≤ 1048576)
def OpenSpec.upto (s : _root_.Go.ChangeSpec) : _root_.Go.OpenSpec := { _root_.Go.OpenSpec.ofChange s with cond := some uptoSmall }

/-- 'laws.FnValidBoard', WHERE WHAT IT READS IS OF BULK AT MOST 1048576: true; the input reads as it did. -/
def fnValidBoardUptoRow : OpenClaim := { program := "ytmddkifadknlfaa", sum := "880cea1c1ef9079289e5dab8e87d9d39448b3e8df4c4371be44da299c0294f18", func := "loop.example/goboard/laws.FnValidBoard", spec := "fnValidBoard", inPlace := ["internal/abi.NoEscape"], apart := false, narrowed := true }
def FnValidBoardUptoSaid : Prop := fnValidBoardUptoRow.holds Try.pinned (OpenSpec.upto fnValidBoardSpec)

/-- 'laws.FnBoardNew', WHERE WHAT IT READS IS OF BULK AT MOST 1048576: true; the input reads as it did. -/
def fnBoardNewUptoRow : OpenClaim := { program := "ytmddkifadknlfaa", sum := "880cea1c1ef9079289e5dab8e87d9d39448b3e8df4c4371be44da299c0294f18", func := "loop.example/goboard/laws.FnBoardNew", spec := "fnBoardNew", apart := false, narrowed := true }
def FnBoardNewUptoSaid : Prop := fnBoardNewUptoRow.holds Try.pinned (OpenSpec.upto fnBoardNewSpec)

end Rows
end Go.Proofs.Ytmddkifadknlfaa
