/-
  No cell of these rows narrows 'for every input' (looked for: loops, veiled, ifaces, maps, wideKeys, modest, calm, conditions, laid).
  DERIVED. THE GIVEN ROWS OF THIS SEAT. 14 by the template 'for every input the law returns true; each argument reads behind the call as it read before'; 0 by the template 'total and deterministic' (their statements: YtocjlhlohlkkmaaTotals.lean).
  GIVEN WITH THE SEED: the statements are not yours to turn. If you find one false, say at which input.
  Laid BY PROGRAM, IN A SANDBOX (cutbox-rows.mjs): the forced cells as the released guide's own fill.sh prints them over the translation b365879129c32af2… (all of the seat's roots in one cut). By AI agents, Wed Nov 11 2026. No macro, syntax, notation, axiom, sorry.
-/
import Derived.Test.YtocjlhlohlkkmaaChecked
import GoSem.Claim
import GoSem.ClaimJoined
import GoSem.ClaimMapViews
import Derived.JoinedTies
import Derived.KernelRfl
namespace Go.Proofs.Ytocjlhlohlkkmaa
/- THE CELL 'sum', in the pinned program and in every row, IS THE sha256 OF THE DUMP (.gsa) THAT YtocjlhlohlkkmaaProg.lean LOADS. Nothing in Lean hashes anything: it is a label: what it is worth is what the hold of that sum in a sandbox is worth. -/
noncomputable def Try.pinned : Pinned := { name := "ytocjlhlohlkkmaa", sum := "b365879129c32af23039fd102aa89cf7e30f892b211f5c008a994e0086fb4260", checked := Try.checked }
namespace Rows
def none {H : Type} : Left H := { results := [], args := [] }

/-- 'laws.FnMakeDyadic': WHATEVER THE INPUT: true; the input reads as it did. -/
def fnMakeDyadicSpec : ChangeSpec := { name := "fnMakeDyadic", fn := fun _ => fun
  | [d] => { results := [.lit (.bool true)], args := [d] }
  | _ => none }
def fnMakeDyadicRow : OpenClaim := { program := "ytocjlhlohlkkmaa", sum := "b365879129c32af23039fd102aa89cf7e30f892b211f5c008a994e0086fb4260", func := "loop.example/goboard/laws.FnMakeDyadic", spec := "fnMakeDyadic", apart := false }
def FnMakeDyadicSaid : Prop := fnMakeDyadicRow.holds Try.pinned (OpenSpec.ofChange fnMakeDyadicSpec)

/-- ITS FALSE NEIGHBOUR: 'it returns false'. Refute it at one input. -/
def fnMakeDyadicWrong : ChangeSpec := { name := "fnMakeDyadic", fn := fun _ => fun
  | [d] => { results := [.lit (.bool false)], args := [d] }
  | _ => none }
def FnMakeDyadicWrongFalsely : Prop := fnMakeDyadicRow.holds Try.pinned (OpenSpec.ofChange fnMakeDyadicWrong)

/-- 'laws.FnAddDyadic': WHATEVER THE INPUT: true; the input reads as it did. -/
def fnAddDyadicSpec : ChangeSpec := { name := "fnAddDyadic", fn := fun _ => fun
  | [d] => { results := [.lit (.bool true)], args := [d] }
  | _ => none }
def fnAddDyadicRow : OpenClaim := { program := "ytocjlhlohlkkmaa", sum := "b365879129c32af23039fd102aa89cf7e30f892b211f5c008a994e0086fb4260", func := "loop.example/goboard/laws.FnAddDyadic", spec := "fnAddDyadic", apart := false }
def FnAddDyadicSaid : Prop := fnAddDyadicRow.holds Try.pinned (OpenSpec.ofChange fnAddDyadicSpec)

/-- ITS FALSE NEIGHBOUR: 'it returns false'. Refute it at one input. -/
def fnAddDyadicWrong : ChangeSpec := { name := "fnAddDyadic", fn := fun _ => fun
  | [d] => { results := [.lit (.bool false)], args := [d] }
  | _ => none }
def FnAddDyadicWrongFalsely : Prop := fnAddDyadicRow.holds Try.pinned (OpenSpec.ofChange fnAddDyadicWrong)

/-- 'laws.FnCompareDyadic': WHATEVER THE INPUT: true; the input reads as it did. -/
def fnCompareDyadicSpec : ChangeSpec := { name := "fnCompareDyadic", fn := fun _ => fun
  | [d] => { results := [.lit (.bool true)], args := [d] }
  | _ => none }
def fnCompareDyadicRow : OpenClaim := { program := "ytocjlhlohlkkmaa", sum := "b365879129c32af23039fd102aa89cf7e30f892b211f5c008a994e0086fb4260", func := "loop.example/goboard/laws.FnCompareDyadic", spec := "fnCompareDyadic", apart := false }
def FnCompareDyadicSaid : Prop := fnCompareDyadicRow.holds Try.pinned (OpenSpec.ofChange fnCompareDyadicSpec)

/-- ITS FALSE NEIGHBOUR: 'it returns false'. Refute it at one input. -/
def fnCompareDyadicWrong : ChangeSpec := { name := "fnCompareDyadic", fn := fun _ => fun
  | [d] => { results := [.lit (.bool false)], args := [d] }
  | _ => none }
def FnCompareDyadicWrongFalsely : Prop := fnCompareDyadicRow.holds Try.pinned (OpenSpec.ofChange fnCompareDyadicWrong)

/-- 'laws.FnSimplestBetween': WHATEVER THE INPUT: true; the input reads as it did. -/
def fnSimplestBetweenSpec : ChangeSpec := { name := "fnSimplestBetween", fn := fun _ => fun
  | [d] => { results := [.lit (.bool true)], args := [d] }
  | _ => none }
def fnSimplestBetweenRow : OpenClaim := { program := "ytocjlhlohlkkmaa", sum := "b365879129c32af23039fd102aa89cf7e30f892b211f5c008a994e0086fb4260", func := "loop.example/goboard/laws.FnSimplestBetween", spec := "fnSimplestBetween", apart := false }
def FnSimplestBetweenSaid : Prop := fnSimplestBetweenRow.holds Try.pinned (OpenSpec.ofChange fnSimplestBetweenSpec)

/-- ITS FALSE NEIGHBOUR: 'it returns false'. Refute it at one input. -/
def fnSimplestBetweenWrong : ChangeSpec := { name := "fnSimplestBetween", fn := fun _ => fun
  | [d] => { results := [.lit (.bool false)], args := [d] }
  | _ => none }
def FnSimplestBetweenWrongFalsely : Prop := fnSimplestBetweenRow.holds Try.pinned (OpenSpec.ofChange fnSimplestBetweenWrong)

/-- 'laws.FnSimplestBetweenMinus': WHATEVER THE INPUT: true; the input reads as it did. -/
def fnSimplestBetweenMinusSpec : ChangeSpec := { name := "fnSimplestBetweenMinus", fn := fun _ => fun
  | [d] => { results := [.lit (.bool true)], args := [d] }
  | _ => none }
def fnSimplestBetweenMinusRow : OpenClaim := { program := "ytocjlhlohlkkmaa", sum := "b365879129c32af23039fd102aa89cf7e30f892b211f5c008a994e0086fb4260", func := "loop.example/goboard/laws.FnSimplestBetweenMinus", spec := "fnSimplestBetweenMinus", apart := false }
def FnSimplestBetweenMinusSaid : Prop := fnSimplestBetweenMinusRow.holds Try.pinned (OpenSpec.ofChange fnSimplestBetweenMinusSpec)

/-- ITS FALSE NEIGHBOUR: 'it returns false'. Refute it at one input. -/
def fnSimplestBetweenMinusWrong : ChangeSpec := { name := "fnSimplestBetweenMinus", fn := fun _ => fun
  | [d] => { results := [.lit (.bool false)], args := [d] }
  | _ => none }
def FnSimplestBetweenMinusWrongFalsely : Prop := fnSimplestBetweenMinusRow.holds Try.pinned (OpenSpec.ofChange fnSimplestBetweenMinusWrong)

/-- 'laws.FnCompareDyadicAdd': WHATEVER THE INPUT: true; the input reads as it did. -/
def fnCompareDyadicAddSpec : ChangeSpec := { name := "fnCompareDyadicAdd", fn := fun _ => fun
  | [d] => { results := [.lit (.bool true)], args := [d] }
  | _ => none }
def fnCompareDyadicAddRow : OpenClaim := { program := "ytocjlhlohlkkmaa", sum := "b365879129c32af23039fd102aa89cf7e30f892b211f5c008a994e0086fb4260", func := "loop.example/goboard/laws.FnCompareDyadicAdd", spec := "fnCompareDyadicAdd", apart := false }
def FnCompareDyadicAddSaid : Prop := fnCompareDyadicAddRow.holds Try.pinned (OpenSpec.ofChange fnCompareDyadicAddSpec)

/-- ITS FALSE NEIGHBOUR: 'it returns false'. Refute it at one input. -/
def fnCompareDyadicAddWrong : ChangeSpec := { name := "fnCompareDyadicAdd", fn := fun _ => fun
  | [d] => { results := [.lit (.bool false)], args := [d] }
  | _ => none }
def FnCompareDyadicAddWrongFalsely : Prop := fnCompareDyadicAddRow.holds Try.pinned (OpenSpec.ofChange fnCompareDyadicAddWrong)

/-- 'laws.FnHeatOf': WHATEVER THE INPUT: true; the input reads as it did. -/
def fnHeatOfSpec : ChangeSpec := { name := "fnHeatOf", fn := fun _ => fun
  | [d] => { results := [.lit (.bool true)], args := [d] }
  | _ => none }
def fnHeatOfRow : OpenClaim := { program := "ytocjlhlohlkkmaa", sum := "b365879129c32af23039fd102aa89cf7e30f892b211f5c008a994e0086fb4260", func := "loop.example/goboard/laws.FnHeatOf", spec := "fnHeatOf", apart := false }
def FnHeatOfSaid : Prop := fnHeatOfRow.holds Try.pinned (OpenSpec.ofChange fnHeatOfSpec)

/-- ITS FALSE NEIGHBOUR: 'it returns false'. Refute it at one input. -/
def fnHeatOfWrong : ChangeSpec := { name := "fnHeatOf", fn := fun _ => fun
  | [d] => { results := [.lit (.bool false)], args := [d] }
  | _ => none }
def FnHeatOfWrongFalsely : Prop := fnHeatOfRow.holds Try.pinned (OpenSpec.ofChange fnHeatOfWrong)

/-- 'laws.FnMeanOf': WHATEVER THE INPUT: true; the input reads as it did. -/
def fnMeanOfSpec : ChangeSpec := { name := "fnMeanOf", fn := fun _ => fun
  | [d] => { results := [.lit (.bool true)], args := [d] }
  | _ => none }
def fnMeanOfRow : OpenClaim := { program := "ytocjlhlohlkkmaa", sum := "b365879129c32af23039fd102aa89cf7e30f892b211f5c008a994e0086fb4260", func := "loop.example/goboard/laws.FnMeanOf", spec := "fnMeanOf", apart := false }
def FnMeanOfSaid : Prop := fnMeanOfRow.holds Try.pinned (OpenSpec.ofChange fnMeanOfSpec)

/-- ITS FALSE NEIGHBOUR: 'it returns false'. Refute it at one input. -/
def fnMeanOfWrong : ChangeSpec := { name := "fnMeanOf", fn := fun _ => fun
  | [d] => { results := [.lit (.bool false)], args := [d] }
  | _ => none }
def FnMeanOfWrongFalsely : Prop := fnMeanOfRow.holds Try.pinned (OpenSpec.ofChange fnMeanOfWrong)

/-- 'laws.FnExactMakeDyadic': WHATEVER THE INPUT: true; the input reads as it did. -/
def fnExactMakeDyadicSpec : ChangeSpec := { name := "fnExactMakeDyadic", fn := fun _ => fun
  | [d1, d2] => { results := [.lit (.bool true)], args := [d1, d2] }
  | _ => none }
def fnExactMakeDyadicRow : OpenClaim := { program := "ytocjlhlohlkkmaa", sum := "b365879129c32af23039fd102aa89cf7e30f892b211f5c008a994e0086fb4260", func := "loop.example/goboard/laws.FnExactMakeDyadic", spec := "fnExactMakeDyadic", apart := false }
def FnExactMakeDyadicSaid : Prop := fnExactMakeDyadicRow.holds Try.pinned (OpenSpec.ofChange fnExactMakeDyadicSpec)

/-- ITS FALSE NEIGHBOUR: 'it returns false'. Refute it at one input. -/
def fnExactMakeDyadicWrong : ChangeSpec := { name := "fnExactMakeDyadic", fn := fun _ => fun
  | [d1, d2] => { results := [.lit (.bool false)], args := [d1, d2] }
  | _ => none }
def FnExactMakeDyadicWrongFalsely : Prop := fnExactMakeDyadicRow.holds Try.pinned (OpenSpec.ofChange fnExactMakeDyadicWrong)

/-- 'laws.FnExactAddDyadic': WHATEVER THE INPUT: true; the input reads as it did. -/
def fnExactAddDyadicSpec : ChangeSpec := { name := "fnExactAddDyadic", fn := fun _ => fun
  | [d1, d2] => { results := [.lit (.bool true)], args := [d1, d2] }
  | _ => none }
def fnExactAddDyadicRow : OpenClaim := { program := "ytocjlhlohlkkmaa", sum := "b365879129c32af23039fd102aa89cf7e30f892b211f5c008a994e0086fb4260", func := "loop.example/goboard/laws.FnExactAddDyadic", spec := "fnExactAddDyadic", apart := false }
def FnExactAddDyadicSaid : Prop := fnExactAddDyadicRow.holds Try.pinned (OpenSpec.ofChange fnExactAddDyadicSpec)

/-- ITS FALSE NEIGHBOUR: 'it returns false'. Refute it at one input. -/
def fnExactAddDyadicWrong : ChangeSpec := { name := "fnExactAddDyadic", fn := fun _ => fun
  | [d1, d2] => { results := [.lit (.bool false)], args := [d1, d2] }
  | _ => none }
def FnExactAddDyadicWrongFalsely : Prop := fnExactAddDyadicRow.holds Try.pinned (OpenSpec.ofChange fnExactAddDyadicWrong)

/-- 'laws.FnExactCompareDyadic': WHATEVER THE INPUT: true; the input reads as it did. -/
def fnExactCompareDyadicSpec : ChangeSpec := { name := "fnExactCompareDyadic", fn := fun _ => fun
  | [d1, d2] => { results := [.lit (.bool true)], args := [d1, d2] }
  | _ => none }
def fnExactCompareDyadicRow : OpenClaim := { program := "ytocjlhlohlkkmaa", sum := "b365879129c32af23039fd102aa89cf7e30f892b211f5c008a994e0086fb4260", func := "loop.example/goboard/laws.FnExactCompareDyadic", spec := "fnExactCompareDyadic", apart := false }
def FnExactCompareDyadicSaid : Prop := fnExactCompareDyadicRow.holds Try.pinned (OpenSpec.ofChange fnExactCompareDyadicSpec)

/-- ITS FALSE NEIGHBOUR: 'it returns false'. Refute it at one input. -/
def fnExactCompareDyadicWrong : ChangeSpec := { name := "fnExactCompareDyadic", fn := fun _ => fun
  | [d1, d2] => { results := [.lit (.bool false)], args := [d1, d2] }
  | _ => none }
def FnExactCompareDyadicWrongFalsely : Prop := fnExactCompareDyadicRow.holds Try.pinned (OpenSpec.ofChange fnExactCompareDyadicWrong)

/-- 'laws.FnExactSimplestBetween': WHATEVER THE INPUT: true; the input reads as it did. -/
def fnExactSimplestBetweenSpec : ChangeSpec := { name := "fnExactSimplestBetween", fn := fun _ => fun
  | [d1, d2] => { results := [.lit (.bool true)], args := [d1, d2] }
  | _ => none }
def fnExactSimplestBetweenRow : OpenClaim := { program := "ytocjlhlohlkkmaa", sum := "b365879129c32af23039fd102aa89cf7e30f892b211f5c008a994e0086fb4260", func := "loop.example/goboard/laws.FnExactSimplestBetween", spec := "fnExactSimplestBetween", apart := false }
def FnExactSimplestBetweenSaid : Prop := fnExactSimplestBetweenRow.holds Try.pinned (OpenSpec.ofChange fnExactSimplestBetweenSpec)

/-- ITS FALSE NEIGHBOUR: 'it returns false'. Refute it at one input. -/
def fnExactSimplestBetweenWrong : ChangeSpec := { name := "fnExactSimplestBetween", fn := fun _ => fun
  | [d1, d2] => { results := [.lit (.bool false)], args := [d1, d2] }
  | _ => none }
def FnExactSimplestBetweenWrongFalsely : Prop := fnExactSimplestBetweenRow.holds Try.pinned (OpenSpec.ofChange fnExactSimplestBetweenWrong)

/-- 'laws.FnExactHeatOf': WHATEVER THE INPUT: true; the input reads as it did. -/
def fnExactHeatOfSpec : ChangeSpec := { name := "fnExactHeatOf", fn := fun _ => fun
  | [d] => { results := [.lit (.bool true)], args := [d] }
  | _ => none }
def fnExactHeatOfRow : OpenClaim := { program := "ytocjlhlohlkkmaa", sum := "b365879129c32af23039fd102aa89cf7e30f892b211f5c008a994e0086fb4260", func := "loop.example/goboard/laws.FnExactHeatOf", spec := "fnExactHeatOf", apart := false }
def FnExactHeatOfSaid : Prop := fnExactHeatOfRow.holds Try.pinned (OpenSpec.ofChange fnExactHeatOfSpec)

/-- ITS FALSE NEIGHBOUR: 'it returns false'. Refute it at one input. -/
def fnExactHeatOfWrong : ChangeSpec := { name := "fnExactHeatOf", fn := fun _ => fun
  | [d] => { results := [.lit (.bool false)], args := [d] }
  | _ => none }
def FnExactHeatOfWrongFalsely : Prop := fnExactHeatOfRow.holds Try.pinned (OpenSpec.ofChange fnExactHeatOfWrong)

/-- 'laws.FnExactMeanOf': WHATEVER THE INPUT: true; the input reads as it did. -/
def fnExactMeanOfSpec : ChangeSpec := { name := "fnExactMeanOf", fn := fun _ => fun
  | [d] => { results := [.lit (.bool true)], args := [d] }
  | _ => none }
def fnExactMeanOfRow : OpenClaim := { program := "ytocjlhlohlkkmaa", sum := "b365879129c32af23039fd102aa89cf7e30f892b211f5c008a994e0086fb4260", func := "loop.example/goboard/laws.FnExactMeanOf", spec := "fnExactMeanOf", apart := false }
def FnExactMeanOfSaid : Prop := fnExactMeanOfRow.holds Try.pinned (OpenSpec.ofChange fnExactMeanOfSpec)

/-- ITS FALSE NEIGHBOUR: 'it returns false'. Refute it at one input. -/
def fnExactMeanOfWrong : ChangeSpec := { name := "fnExactMeanOf", fn := fun _ => fun
  | [d] => { results := [.lit (.bool false)], args := [d] }
  | _ => none }
def FnExactMeanOfWrongFalsely : Prop := fnExactMeanOfRow.holds Try.pinned (OpenSpec.ofChange fnExactMeanOfWrong)

/- THE SECOND FORM. 'bulk': how many values and letters a reading holds, each counted each time it is reached (what is shared counts as often as it is met; a slice's spare places count too). A statement '..UptoSaid' is the law's where the arguments, and the package variables that the reading takes, are together of bulk at most 1048576: NARROWER than '..Said'. Prove '..Said' where nothing that the law and all that it calls make is longer than what came in: it says more and counts as full. Else prove '..UptoSaid'. A law counts once. -/
mutual
def uptoBulk {H : Type} : DataW H → Nat
  | .lit (.string bytes) => bytes.length + 1
  | .lit _ => 1
  | .nil => 1
  | .ptr d => uptoBulk d + 1
  | .slice elems spare => uptoBulkAll elems + uptoBulkAll spare + 1
  | .agg parts => uptoBulkAll parts + 1
  | .iface _ d => uptoBulk d + 1
  | .map entries => uptoBulkEntries entries + 1
  | .held _ => 1
def uptoBulkAll {H : Type} : List (DataW H) → Nat
  | [] => 0
  | d :: r => uptoBulk d + uptoBulkAll r
def uptoBulkEntries {H : Type} : List (Lit × DataW H) → Nat
  | [] => 0
  | x :: r => uptoBulkEntry x + uptoBulkEntries r
def uptoBulkEntry {H : Type} : Lit × DataW H → Nat
  | (.string bytes, d) => bytes.length + uptoBulk d + 1
  | (_, d) => uptoBulk d + 1
 end
def uptoSmall : (H : Type) → List (DataW H) → Bool := fun _ ds => decide (uptoBulkAll ds ≤ 1048576)
def OpenSpec.upto (s : _root_.Go.ChangeSpec) : _root_.Go.OpenSpec := { _root_.Go.OpenSpec.ofChange s with cond := some uptoSmall }

/-- 'laws.FnMakeDyadic', WHERE WHAT IT READS IS OF BULK AT MOST 1048576: true; the input reads as it did. -/
def fnMakeDyadicUptoRow : OpenClaim := { program := "ytocjlhlohlkkmaa", sum := "b365879129c32af23039fd102aa89cf7e30f892b211f5c008a994e0086fb4260", func := "loop.example/goboard/laws.FnMakeDyadic", spec := "fnMakeDyadic", apart := false, narrowed := true }
def FnMakeDyadicUptoSaid : Prop := fnMakeDyadicUptoRow.holds Try.pinned (OpenSpec.upto fnMakeDyadicSpec)

/-- 'laws.FnAddDyadic', WHERE WHAT IT READS IS OF BULK AT MOST 1048576: true; the input reads as it did. -/
def fnAddDyadicUptoRow : OpenClaim := { program := "ytocjlhlohlkkmaa", sum := "b365879129c32af23039fd102aa89cf7e30f892b211f5c008a994e0086fb4260", func := "loop.example/goboard/laws.FnAddDyadic", spec := "fnAddDyadic", apart := false, narrowed := true }
def FnAddDyadicUptoSaid : Prop := fnAddDyadicUptoRow.holds Try.pinned (OpenSpec.upto fnAddDyadicSpec)

/-- 'laws.FnCompareDyadic', WHERE WHAT IT READS IS OF BULK AT MOST 1048576: true; the input reads as it did. -/
def fnCompareDyadicUptoRow : OpenClaim := { program := "ytocjlhlohlkkmaa", sum := "b365879129c32af23039fd102aa89cf7e30f892b211f5c008a994e0086fb4260", func := "loop.example/goboard/laws.FnCompareDyadic", spec := "fnCompareDyadic", apart := false, narrowed := true }
def FnCompareDyadicUptoSaid : Prop := fnCompareDyadicUptoRow.holds Try.pinned (OpenSpec.upto fnCompareDyadicSpec)

/-- 'laws.FnSimplestBetween', WHERE WHAT IT READS IS OF BULK AT MOST 1048576: true; the input reads as it did. -/
def fnSimplestBetweenUptoRow : OpenClaim := { program := "ytocjlhlohlkkmaa", sum := "b365879129c32af23039fd102aa89cf7e30f892b211f5c008a994e0086fb4260", func := "loop.example/goboard/laws.FnSimplestBetween", spec := "fnSimplestBetween", apart := false, narrowed := true }
def FnSimplestBetweenUptoSaid : Prop := fnSimplestBetweenUptoRow.holds Try.pinned (OpenSpec.upto fnSimplestBetweenSpec)

/-- 'laws.FnSimplestBetweenMinus', WHERE WHAT IT READS IS OF BULK AT MOST 1048576: true; the input reads as it did. -/
def fnSimplestBetweenMinusUptoRow : OpenClaim := { program := "ytocjlhlohlkkmaa", sum := "b365879129c32af23039fd102aa89cf7e30f892b211f5c008a994e0086fb4260", func := "loop.example/goboard/laws.FnSimplestBetweenMinus", spec := "fnSimplestBetweenMinus", apart := false, narrowed := true }
def FnSimplestBetweenMinusUptoSaid : Prop := fnSimplestBetweenMinusUptoRow.holds Try.pinned (OpenSpec.upto fnSimplestBetweenMinusSpec)

/-- 'laws.FnCompareDyadicAdd', WHERE WHAT IT READS IS OF BULK AT MOST 1048576: true; the input reads as it did. -/
def fnCompareDyadicAddUptoRow : OpenClaim := { program := "ytocjlhlohlkkmaa", sum := "b365879129c32af23039fd102aa89cf7e30f892b211f5c008a994e0086fb4260", func := "loop.example/goboard/laws.FnCompareDyadicAdd", spec := "fnCompareDyadicAdd", apart := false, narrowed := true }
def FnCompareDyadicAddUptoSaid : Prop := fnCompareDyadicAddUptoRow.holds Try.pinned (OpenSpec.upto fnCompareDyadicAddSpec)

/-- 'laws.FnHeatOf', WHERE WHAT IT READS IS OF BULK AT MOST 1048576: true; the input reads as it did. -/
def fnHeatOfUptoRow : OpenClaim := { program := "ytocjlhlohlkkmaa", sum := "b365879129c32af23039fd102aa89cf7e30f892b211f5c008a994e0086fb4260", func := "loop.example/goboard/laws.FnHeatOf", spec := "fnHeatOf", apart := false, narrowed := true }
def FnHeatOfUptoSaid : Prop := fnHeatOfUptoRow.holds Try.pinned (OpenSpec.upto fnHeatOfSpec)

/-- 'laws.FnMeanOf', WHERE WHAT IT READS IS OF BULK AT MOST 1048576: true; the input reads as it did. -/
def fnMeanOfUptoRow : OpenClaim := { program := "ytocjlhlohlkkmaa", sum := "b365879129c32af23039fd102aa89cf7e30f892b211f5c008a994e0086fb4260", func := "loop.example/goboard/laws.FnMeanOf", spec := "fnMeanOf", apart := false, narrowed := true }
def FnMeanOfUptoSaid : Prop := fnMeanOfUptoRow.holds Try.pinned (OpenSpec.upto fnMeanOfSpec)

/-- 'laws.FnExactMakeDyadic', WHERE WHAT IT READS IS OF BULK AT MOST 1048576: true; the input reads as it did. -/
def fnExactMakeDyadicUptoRow : OpenClaim := { program := "ytocjlhlohlkkmaa", sum := "b365879129c32af23039fd102aa89cf7e30f892b211f5c008a994e0086fb4260", func := "loop.example/goboard/laws.FnExactMakeDyadic", spec := "fnExactMakeDyadic", apart := false, narrowed := true }
def FnExactMakeDyadicUptoSaid : Prop := fnExactMakeDyadicUptoRow.holds Try.pinned (OpenSpec.upto fnExactMakeDyadicSpec)

/-- 'laws.FnExactAddDyadic', WHERE WHAT IT READS IS OF BULK AT MOST 1048576: true; the input reads as it did. -/
def fnExactAddDyadicUptoRow : OpenClaim := { program := "ytocjlhlohlkkmaa", sum := "b365879129c32af23039fd102aa89cf7e30f892b211f5c008a994e0086fb4260", func := "loop.example/goboard/laws.FnExactAddDyadic", spec := "fnExactAddDyadic", apart := false, narrowed := true }
def FnExactAddDyadicUptoSaid : Prop := fnExactAddDyadicUptoRow.holds Try.pinned (OpenSpec.upto fnExactAddDyadicSpec)

/-- 'laws.FnExactCompareDyadic', WHERE WHAT IT READS IS OF BULK AT MOST 1048576: true; the input reads as it did. -/
def fnExactCompareDyadicUptoRow : OpenClaim := { program := "ytocjlhlohlkkmaa", sum := "b365879129c32af23039fd102aa89cf7e30f892b211f5c008a994e0086fb4260", func := "loop.example/goboard/laws.FnExactCompareDyadic", spec := "fnExactCompareDyadic", apart := false, narrowed := true }
def FnExactCompareDyadicUptoSaid : Prop := fnExactCompareDyadicUptoRow.holds Try.pinned (OpenSpec.upto fnExactCompareDyadicSpec)

/-- 'laws.FnExactSimplestBetween', WHERE WHAT IT READS IS OF BULK AT MOST 1048576: true; the input reads as it did. -/
def fnExactSimplestBetweenUptoRow : OpenClaim := { program := "ytocjlhlohlkkmaa", sum := "b365879129c32af23039fd102aa89cf7e30f892b211f5c008a994e0086fb4260", func := "loop.example/goboard/laws.FnExactSimplestBetween", spec := "fnExactSimplestBetween", apart := false, narrowed := true }
def FnExactSimplestBetweenUptoSaid : Prop := fnExactSimplestBetweenUptoRow.holds Try.pinned (OpenSpec.upto fnExactSimplestBetweenSpec)

/-- 'laws.FnExactHeatOf', WHERE WHAT IT READS IS OF BULK AT MOST 1048576: true; the input reads as it did. -/
def fnExactHeatOfUptoRow : OpenClaim := { program := "ytocjlhlohlkkmaa", sum := "b365879129c32af23039fd102aa89cf7e30f892b211f5c008a994e0086fb4260", func := "loop.example/goboard/laws.FnExactHeatOf", spec := "fnExactHeatOf", apart := false, narrowed := true }
def FnExactHeatOfUptoSaid : Prop := fnExactHeatOfUptoRow.holds Try.pinned (OpenSpec.upto fnExactHeatOfSpec)

/-- 'laws.FnExactMeanOf', WHERE WHAT IT READS IS OF BULK AT MOST 1048576: true; the input reads as it did. -/
def fnExactMeanOfUptoRow : OpenClaim := { program := "ytocjlhlohlkkmaa", sum := "b365879129c32af23039fd102aa89cf7e30f892b211f5c008a994e0086fb4260", func := "loop.example/goboard/laws.FnExactMeanOf", spec := "fnExactMeanOf", apart := false, narrowed := true }
def FnExactMeanOfUptoSaid : Prop := fnExactMeanOfUptoRow.holds Try.pinned (OpenSpec.upto fnExactMeanOfSpec)

end Rows
end Go.Proofs.Ytocjlhlohlkkmaa
