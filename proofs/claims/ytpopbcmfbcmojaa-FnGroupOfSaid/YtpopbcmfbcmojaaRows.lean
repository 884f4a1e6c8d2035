/-
  No cell of these rows narrows 'for every input' (looked for: loops, veiled, ifaces, maps, wideKeys, modest, calm, conditions, laid).
  DERIVED. THE GIVEN ROWS OF THIS SEAT. 7 by the template 'for every input the law returns true; each argument reads behind the call as it read before'; 0 by the template 'total and deterministic' (their statements: YtpopbcmfbcmojaaTotals.lean).
  GIVEN WITH THE SEED: the statements are not yours to turn. If you find one false, say at which input.
  Laid BY PROGRAM, IN A SANDBOX (cutbox-rows.mjs): the forced cells as the released guide's own fill.sh prints them over the translation 2f68b3baea03c627… (all of the seat's roots in one cut). By AI agents, Wed Nov 11 2026. No macro, syntax, notation, axiom, sorry.
-/
import Derived.Test.YtpopbcmfbcmojaaChecked
import GoSem.Claim
import GoSem.ClaimJoined
import GoSem.ClaimMapViews
import Derived.JoinedTies
import Derived.KernelRfl
namespace Go.Proofs.Ytpopbcmfbcmojaa
/- THE CELL 'sum', in the pinned program and in every row, IS THE sha256 OF THE DUMP (.gsa) THAT YtpopbcmfbcmojaaProg.lean LOADS. Nothing in Lean hashes anything: it is a label: what it is worth is what the hold of that sum in a sandbox is worth. -/
noncomputable def Try.pinned : Pinned := { name := "ytpopbcmfbcmojaa", sum := "2f68b3baea03c6278155e8ac4d4ca35ef01a2a0baf650ddb9cbb138556be0f94", checked := Try.checked }
namespace Rows
def none {H : Type} : Left H := { results := [], args := [] }

/-- 'laws.FnPatternAt': WHATEVER THE INPUT: true; the input reads as it did. -/
def fnPatternAtSpec : ChangeSpec := { name := "fnPatternAt", fn := fun _ => fun
  | [d] => { results := [.lit (.bool true)], args := [d] }
  | _ => none }
def fnPatternAtRow : OpenClaim := { program := "ytpopbcmfbcmojaa", sum := "2f68b3baea03c6278155e8ac4d4ca35ef01a2a0baf650ddb9cbb138556be0f94", func := "loop.example/goboard/laws.FnPatternAt", spec := "fnPatternAt", apart := false }
def FnPatternAtSaid : Prop := fnPatternAtRow.holds Try.pinned (OpenSpec.ofChange fnPatternAtSpec)

/-- ITS FALSE NEIGHBOUR: 'it returns false'. Refute it at one input. -/
def fnPatternAtWrong : ChangeSpec := { name := "fnPatternAt", fn := fun _ => fun
  | [d] => { results := [.lit (.bool false)], args := [d] }
  | _ => none }
def FnPatternAtWrongFalsely : Prop := fnPatternAtRow.holds Try.pinned (OpenSpec.ofChange fnPatternAtWrong)

/-- 'laws.FnExactPatternAt': WHATEVER THE INPUT: true; the input reads as it did. -/
def fnExactPatternAtSpec : ChangeSpec := { name := "fnExactPatternAt", fn := fun _ => fun
  | [d1, d2] => { results := [.lit (.bool true)], args := [d1, d2] }
  | _ => none }
def fnExactPatternAtRow : OpenClaim := { program := "ytpopbcmfbcmojaa", sum := "2f68b3baea03c6278155e8ac4d4ca35ef01a2a0baf650ddb9cbb138556be0f94", func := "loop.example/goboard/laws.FnExactPatternAt", spec := "fnExactPatternAt", apart := false }
def FnExactPatternAtSaid : Prop := fnExactPatternAtRow.holds Try.pinned (OpenSpec.ofChange fnExactPatternAtSpec)

/-- ITS FALSE NEIGHBOUR: 'it returns false'. Refute it at one input. -/
def fnExactPatternAtWrong : ChangeSpec := { name := "fnExactPatternAt", fn := fun _ => fun
  | [d1, d2] => { results := [.lit (.bool false)], args := [d1, d2] }
  | _ => none }
def FnExactPatternAtWrongFalsely : Prop := fnExactPatternAtRow.holds Try.pinned (OpenSpec.ofChange fnExactPatternAtWrong)

/-- 'laws.FnFindPattern': WHATEVER THE INPUT: true; the input reads as it did. -/
def fnFindPatternSpec : ChangeSpec := { name := "fnFindPattern", fn := fun _ => fun
  | [d] => { results := [.lit (.bool true)], args := [d] }
  | _ => none }
def fnFindPatternRow : OpenClaim := { program := "ytpopbcmfbcmojaa", sum := "2f68b3baea03c6278155e8ac4d4ca35ef01a2a0baf650ddb9cbb138556be0f94", func := "loop.example/goboard/laws.FnFindPattern", spec := "fnFindPattern", apart := false }
def FnFindPatternSaid : Prop := fnFindPatternRow.holds Try.pinned (OpenSpec.ofChange fnFindPatternSpec)

/-- ITS FALSE NEIGHBOUR: 'it returns false'. Refute it at one input. -/
def fnFindPatternWrong : ChangeSpec := { name := "fnFindPattern", fn := fun _ => fun
  | [d] => { results := [.lit (.bool false)], args := [d] }
  | _ => none }
def FnFindPatternWrongFalsely : Prop := fnFindPatternRow.holds Try.pinned (OpenSpec.ofChange fnFindPatternWrong)

/-- 'laws.FnExactFindPattern': WHATEVER THE INPUT: true; the input reads as it did. -/
def fnExactFindPatternSpec : ChangeSpec := { name := "fnExactFindPattern", fn := fun _ => fun
  | [d1, d2] => { results := [.lit (.bool true)], args := [d1, d2] }
  | _ => none }
def fnExactFindPatternRow : OpenClaim := { program := "ytpopbcmfbcmojaa", sum := "2f68b3baea03c6278155e8ac4d4ca35ef01a2a0baf650ddb9cbb138556be0f94", func := "loop.example/goboard/laws.FnExactFindPattern", spec := "fnExactFindPattern", apart := false }
def FnExactFindPatternSaid : Prop := fnExactFindPatternRow.holds Try.pinned (OpenSpec.ofChange fnExactFindPatternSpec)

/-- ITS FALSE NEIGHBOUR: 'it returns false'. Refute it at one input. -/
def fnExactFindPatternWrong : ChangeSpec := { name := "fnExactFindPattern", fn := fun _ => fun
  | [d1, d2] => { results := [.lit (.bool false)], args := [d1, d2] }
  | _ => none }
def FnExactFindPatternWrongFalsely : Prop := fnExactFindPatternRow.holds Try.pinned (OpenSpec.ofChange fnExactFindPatternWrong)

/-- 'laws.FnHashOf': WHATEVER THE INPUT: true; the input reads as it did. -/
def fnHashOfSpec : ChangeSpec := { name := "fnHashOf", fn := fun _ => fun
  | [d] => { results := [.lit (.bool true)], args := [d] }
  | _ => none }
def fnHashOfRow : OpenClaim := { program := "ytpopbcmfbcmojaa", sum := "2f68b3baea03c6278155e8ac4d4ca35ef01a2a0baf650ddb9cbb138556be0f94", func := "loop.example/goboard/laws.FnHashOf", spec := "fnHashOf", apart := false }
def FnHashOfSaid : Prop := fnHashOfRow.holds Try.pinned (OpenSpec.ofChange fnHashOfSpec)

/-- ITS FALSE NEIGHBOUR: 'it returns false'. Refute it at one input. -/
def fnHashOfWrong : ChangeSpec := { name := "fnHashOf", fn := fun _ => fun
  | [d] => { results := [.lit (.bool false)], args := [d] }
  | _ => none }
def FnHashOfWrongFalsely : Prop := fnHashOfRow.holds Try.pinned (OpenSpec.ofChange fnHashOfWrong)

/-- 'laws.FnExactHashOf': WHATEVER THE INPUT: true; the input reads as it did. -/
def fnExactHashOfSpec : ChangeSpec := { name := "fnExactHashOf", fn := fun _ => fun
  | [d] => { results := [.lit (.bool true)], args := [d] }
  | _ => none }
def fnExactHashOfRow : OpenClaim := { program := "ytpopbcmfbcmojaa", sum := "2f68b3baea03c6278155e8ac4d4ca35ef01a2a0baf650ddb9cbb138556be0f94", func := "loop.example/goboard/laws.FnExactHashOf", spec := "fnExactHashOf", apart := false }
def FnExactHashOfSaid : Prop := fnExactHashOfRow.holds Try.pinned (OpenSpec.ofChange fnExactHashOfSpec)

/-- ITS FALSE NEIGHBOUR: 'it returns false'. Refute it at one input. -/
def fnExactHashOfWrong : ChangeSpec := { name := "fnExactHashOf", fn := fun _ => fun
  | [d] => { results := [.lit (.bool false)], args := [d] }
  | _ => none }
def FnExactHashOfWrongFalsely : Prop := fnExactHashOfRow.holds Try.pinned (OpenSpec.ofChange fnExactHashOfWrong)

/-- 'laws.FnGroupOf': WHATEVER THE INPUT: true; the input reads as it did. -/
def fnGroupOfSpec : ChangeSpec := { name := "fnGroupOf", fn := fun _ => fun
  | [d] => { results := [.lit (.bool true)], args := [d] }
  | _ => none }
def fnGroupOfRow : OpenClaim := { program := "ytpopbcmfbcmojaa", sum := "2f68b3baea03c6278155e8ac4d4ca35ef01a2a0baf650ddb9cbb138556be0f94", func := "loop.example/goboard/laws.FnGroupOf", spec := "fnGroupOf", apart := false }
def FnGroupOfSaid : Prop := fnGroupOfRow.holds Try.pinned (OpenSpec.ofChange fnGroupOfSpec)

/-- ITS FALSE NEIGHBOUR: 'it returns false'. Refute it at one input. -/
def fnGroupOfWrong : ChangeSpec := { name := "fnGroupOf", fn := fun _ => fun
  | [d] => { results := [.lit (.bool false)], args := [d] }
  | _ => none }
def FnGroupOfWrongFalsely : Prop := fnGroupOfRow.holds Try.pinned (OpenSpec.ofChange fnGroupOfWrong)

/- THE SECOND FORM. 'bulk': how many values and letters a reading holds, each counted each time it is reached (what is shared counts as often as it is met; a slice's spare places count too). A statement '..UptoSaid' is the law's where the arguments, and the package variables that the reading takes, are together of bulk at most 1048576: NARROWER than '..Said'. Prove '..Said' where nothing that the law and all that it calls make is longer than what came in: it says more and counts as full. Else prove '..UptoSaid'. A law counts once. -/
mutual
def uptoBulk {H : Type} : DataW H → Nat
  | .lit (.string bytes) => bytes.length + 1
  | .lit _ => 1
  | .nil => 1
  | .ptr d => uptoBulk d + 1
  | .slice elems spare => uptoBulkAll elems + uptoBulkAll spare + 1
  | .agg parts => uptoBulkAll parts + 1
  | .iface _ d => uptoBulk d + 1
  | .map entries => uptoBulkEntries entries + 1
  | .held _ => 1
def uptoBulkAll {H : Type} : List (DataW H) → Nat
  | [] => 0
  | d :: r => uptoBulk d + uptoBulkAll r
def uptoBulkEntries {H : Type} : List (Lit × DataW H) → Nat
  | [] => 0
  | x :: r => uptoBulkEntry x + uptoBulkEntries r
def uptoBulkEntry {H : Type} : Lit × DataW H → Nat
  | (.string bytes, d) => bytes.length + uptoBulk d + 1
  | (_, d) => uptoBulk d + 1
 end
def uptoSmall : (H : Type) → List (DataW H) → Bool := fun _ ds => decide (uptoBulkAll ds ≤ 1048576)
def OpenSpec.upto (s : _root_.Go.ChangeSpec) : _root_.Go.OpenSpec := { _root_.Go.OpenSpec.ofChange s with cond := some uptoSmall }

/-- 'laws.FnPatternAt', WHERE WHAT IT READS IS OF BULK AT MOST 1048576: true; the input reads as it did. -/
def fnPatternAtUptoRow : OpenClaim := { program := "ytpopbcmfbcmojaa", sum := "2f68b3baea03c6278155e8ac4d4ca35ef01a2a0baf650ddb9cbb138556be0f94", func := "loop.example/goboard/laws.FnPatternAt", spec := "fnPatternAt", apart := false, narrowed := true }
def FnPatternAtUptoSaid : Prop := fnPatternAtUptoRow.holds Try.pinned (OpenSpec.upto fnPatternAtSpec)

/-- 'laws.FnExactPatternAt', WHERE WHAT IT READS IS OF BULK AT MOST 1048576: true; the input reads as it did. -/
def fnExactPatternAtUptoRow : OpenClaim := { program := "ytpopbcmfbcmojaa", sum := "2f68b3baea03c6278155e8ac4d4ca35ef01a2a0baf650ddb9cbb138556be0f94", func := "loop.example/goboard/laws.FnExactPatternAt", spec := "fnExactPatternAt", apart := false, narrowed := true }
def FnExactPatternAtUptoSaid : Prop := fnExactPatternAtUptoRow.holds Try.pinned (OpenSpec.upto fnExactPatternAtSpec)

/-- 'laws.FnFindPattern', WHERE WHAT IT READS IS OF BULK AT MOST 1048576: true; the input reads as it did. -/
def fnFindPatternUptoRow : OpenClaim := { program := "ytpopbcmfbcmojaa", sum := "2f68b3baea03c6278155e8ac4d4ca35ef01a2a0baf650ddb9cbb138556be0f94", func := "loop.example/goboard/laws.FnFindPattern", spec := "fnFindPattern", apart := false, narrowed := true }
def FnFindPatternUptoSaid : Prop := fnFindPatternUptoRow.holds Try.pinned (OpenSpec.upto fnFindPatternSpec)

/-- 'laws.FnExactFindPattern', WHERE WHAT IT READS IS OF BULK AT MOST 1048576: true; the input reads as it did. -/
def fnExactFindPatternUptoRow : OpenClaim := { program := "ytpopbcmfbcmojaa", sum := "2f68b3baea03c6278155e8ac4d4ca35ef01a2a0baf650ddb9cbb138556be0f94", func := "loop.example/goboard/laws.FnExactFindPattern", spec := "fnExactFindPattern", apart := false, narrowed := true }
def FnExactFindPatternUptoSaid : Prop := fnExactFindPatternUptoRow.holds Try.pinned (OpenSpec.upto fnExactFindPatternSpec)

/-- 'laws.FnHashOf', WHERE WHAT IT READS IS OF BULK AT MOST 1048576: true; the input reads as it did. -/
def fnHashOfUptoRow : OpenClaim := { program := "ytpopbcmfbcmojaa", sum := "2f68b3baea03c6278155e8ac4d4ca35ef01a2a0baf650ddb9cbb138556be0f94", func := "loop.example/goboard/laws.FnHashOf", spec := "fnHashOf", apart := false, narrowed := true }
def FnHashOfUptoSaid : Prop := fnHashOfUptoRow.holds Try.pinned (OpenSpec.upto fnHashOfSpec)

/-- 'laws.FnExactHashOf', WHERE WHAT IT READS IS OF BULK AT MOST 1048576: true; the input reads as it did. -/
def fnExactHashOfUptoRow : OpenClaim := { program := "ytpopbcmfbcmojaa", sum := "2f68b3baea03c6278155e8ac4d4ca35ef01a2a0baf650ddb9cbb138556be0f94", func := "loop.example/goboard/laws.FnExactHashOf", spec := "fnExactHashOf", apart := false, narrowed := true }
def FnExactHashOfUptoSaid : Prop := fnExactHashOfUptoRow.holds Try.pinned (OpenSpec.upto fnExactHashOfSpec)

/-- 'laws.FnGroupOf', WHERE WHAT IT READS IS OF BULK AT MOST 1048576: true; the input reads as it did. -/
def fnGroupOfUptoRow : OpenClaim := { program := "ytpopbcmfbcmojaa", sum := "2f68b3baea03c6278155e8ac4d4ca35ef01a2a0baf650ddb9cbb138556be0f94", func := "loop.example/goboard/laws.FnGroupOf", spec := "fnGroupOf", apart := false, narrowed := true }
def FnGroupOfUptoSaid : Prop := fnGroupOfUptoRow.holds Try.pinned (OpenSpec.upto fnGroupOfSpec)

end Rows
end Go.Proofs.Ytpopbcmfbcmojaa
