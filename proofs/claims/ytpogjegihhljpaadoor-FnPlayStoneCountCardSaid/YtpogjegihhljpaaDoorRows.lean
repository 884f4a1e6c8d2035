/-
  NARROWER THAN 'FOR EVERY INPUT', by the rows' own cells (each row's printed sentence says how): FnPlayStone: ifaces, laid · FnPlayStoneLiberties: ifaces, laid · FnPossiblePoints: ifaces, laid · FnCapturingPoints: ifaces, laid · FnEyesOf: laid · FnPlayStoneCount: ifaces, laid · FnExactPlayStone: ifaces, laid · FnExactPossiblePoints: ifaces, laid · FnExactCapturingPoints: ifaces, laid.
  DERIVED. THE GIVEN ROWS OF THIS SEAT. 9 by the template 'for every input the law returns true; each argument reads behind the call as it read before'; 0 by the template 'total and deterministic' (their statements: YtpogjegihhljpaaDoorTotals.lean).
  GIVEN WITH THE SEED: the statements are not yours to turn. If you find one false, say at which input.
  Laid BY PROGRAM, IN A SANDBOX (cutbox-rows.mjs): the forced cells as the released guide's own fill.sh prints them over the translation b86c5429bf45cc50… (all of the seat's roots in one cut). By AI agents, Wed Nov 11 2026. No macro, syntax, notation, axiom, sorry.
-/
import Derived.Test.YtpogjegihhljpaaDoorChecked
import GoSem.Claim
import GoSem.ClaimJoined
import GoSem.ClaimMapViews
import Derived.JoinedTies
import Derived.KernelRfl
namespace Go.Proofs.YtpogjegihhljpaaDoor
/- THE CELL 'sum', in the pinned program and in every row, IS THE sha256 OF THE DUMP (.gsa) THAT YtpogjegihhljpaaDoorProg.lean LOADS. Nothing in Lean hashes anything: it is a label: what it is worth is what the hold of that sum in a sandbox is worth. -/
noncomputable def Tryd.pinned : Pinned := { name := "ytpogjegihhljpaadoor", sum := "b86c5429bf45cc50937552de4f105f748cb1ca6f7ab842b7abebf2e56ea43b81", checked := Tryd.checked }
namespace Rows
def none {H : Type} : Left H := { results := [], args := [] }

/- WHAT THE LISTED PACKAGE-LEVEL VARIABLES READ AS WHEN THE CALL BEGINS. Each datum BY PROGRAM (the guide's laid-datum.mjs) off the statement by which the dump's own 'gosem.cut.vars' lays the variable. In a bare row this is a premise. The card (YtpogjegihhljpaaDoorCards.lean) ties it to the program's text. -/
def laid_math_bits_deBruijn64tab {H : Type} : DataW H := .agg [.lit (.int .u8 0), .lit (.int .u8 1), .lit (.int .u8 56), .lit (.int .u8 2), .lit (.int .u8 57), .lit (.int .u8 49), .lit (.int .u8 28), .lit (.int .u8 3), .lit (.int .u8 61), .lit (.int .u8 58), .lit (.int .u8 42), .lit (.int .u8 50), .lit (.int .u8 38), .lit (.int .u8 29), .lit (.int .u8 17), .lit (.int .u8 4), .lit (.int .u8 62), .lit (.int .u8 47), .lit (.int .u8 59), .lit (.int .u8 36), .lit (.int .u8 45), .lit (.int .u8 43), .lit (.int .u8 51), .lit (.int .u8 22), .lit (.int .u8 53), .lit (.int .u8 39), .lit (.int .u8 33), .lit (.int .u8 30), .lit (.int .u8 24), .lit (.int .u8 18), .lit (.int .u8 12), .lit (.int .u8 5), .lit (.int .u8 63), .lit (.int .u8 55), .lit (.int .u8 48), .lit (.int .u8 27), .lit (.int .u8 60), .lit (.int .u8 41), .lit (.int .u8 37), .lit (.int .u8 16), .lit (.int .u8 46), .lit (.int .u8 35), .lit (.int .u8 44), .lit (.int .u8 21), .lit (.int .u8 52), .lit (.int .u8 32), .lit (.int .u8 23), .lit (.int .u8 11), .lit (.int .u8 54), .lit (.int .u8 26), .lit (.int .u8 40), .lit (.int .u8 15), .lit (.int .u8 34), .lit (.int .u8 20), .lit (.int .u8 31), .lit (.int .u8 10), .lit (.int .u8 25), .lit (.int .u8 14), .lit (.int .u8 19), .lit (.int .u8 9), .lit (.int .u8 13), .lit (.int .u8 8), .lit (.int .u8 7), .lit (.int .u8 6)]
def laid_loop_example_goboard_impl_errOccupied {H : Type} : DataW H := .iface "*errors.errorString" (.ptr (.agg [.lit (.string [116, 104, 101, 32, 112, 111, 105, 110, 116, 32, 105, 115, 32, 110, 111, 116, 32, 101, 109, 112, 116, 121])]))
def laid_loop_example_goboard_impl_errNoLiberty {H : Type} : DataW H := .iface "*errors.errorString" (.ptr (.agg [.lit (.string [116, 104, 101, 32, 103, 114, 111, 117, 112, 32, 111, 102, 32, 116, 104, 101, 32, 115, 116, 111, 110, 101, 32, 104, 97, 115, 32, 110, 111, 32, 108, 105, 98, 101, 114, 116, 121])]))

/-- 'laws.FnPlayStone': WHATEVER THE INPUT: true; the input reads as it did. -/
def fnPlayStoneSpec : ChangeSpec := { name := "fnPlayStone", vars := ["loop.example/goboard/impl.errOccupied", "loop.example/goboard/impl.errNoLiberty"], fn := fun _ => fun
  | [d, g1, g2] => { results := [.lit (.bool true)], args := [d], vars := [g1, g2] }
  | _ => none }
def fnPlayStoneRow : OpenClaim := { program := "ytpogjegihhljpaadoor", sum := "b86c5429bf45cc50937552de4f105f748cb1ca6f7ab842b7abebf2e56ea43b81", func := "loop.example/goboard/laws.FnPlayStone", spec := "fnPlayStone", named := ["loop.example/goboard/impl.errOccupied", "loop.example/goboard/impl.errNoLiberty", "math/bits.deBruijn64tab"], ifaces := true, apart := false, laid := [("math/bits.deBruijn64tab", laid_math_bits_deBruijn64tab), ("loop.example/goboard/impl.errOccupied", laid_loop_example_goboard_impl_errOccupied), ("loop.example/goboard/impl.errNoLiberty", laid_loop_example_goboard_impl_errNoLiberty)] }
def FnPlayStoneSaid : Prop := fnPlayStoneRow.holds Tryd.pinned (OpenSpec.ofChange fnPlayStoneSpec)

/-- ITS FALSE NEIGHBOUR: 'it returns false'. Refute it at one input. -/
def fnPlayStoneWrong : ChangeSpec := { name := "fnPlayStone", vars := ["loop.example/goboard/impl.errOccupied", "loop.example/goboard/impl.errNoLiberty"], fn := fun _ => fun
  | [d, g1, g2] => { results := [.lit (.bool false)], args := [d], vars := [g1, g2] }
  | _ => none }
def FnPlayStoneWrongFalsely : Prop := fnPlayStoneRow.holds Tryd.pinned (OpenSpec.ofChange fnPlayStoneWrong)

/-- 'laws.FnPlayStoneLiberties': WHATEVER THE INPUT: true; the input reads as it did. -/
def fnPlayStoneLibertiesSpec : ChangeSpec := { name := "fnPlayStoneLiberties", vars := ["loop.example/goboard/impl.errOccupied", "loop.example/goboard/impl.errNoLiberty"], fn := fun _ => fun
  | [d, g1, g2] => { results := [.lit (.bool true)], args := [d], vars := [g1, g2] }
  | _ => none }
def fnPlayStoneLibertiesRow : OpenClaim := { program := "ytpogjegihhljpaadoor", sum := "b86c5429bf45cc50937552de4f105f748cb1ca6f7ab842b7abebf2e56ea43b81", func := "loop.example/goboard/laws.FnPlayStoneLiberties", spec := "fnPlayStoneLiberties", named := ["loop.example/goboard/impl.errOccupied", "loop.example/goboard/impl.errNoLiberty", "math/bits.deBruijn64tab"], ifaces := true, apart := false, laid := [("math/bits.deBruijn64tab", laid_math_bits_deBruijn64tab), ("loop.example/goboard/impl.errOccupied", laid_loop_example_goboard_impl_errOccupied), ("loop.example/goboard/impl.errNoLiberty", laid_loop_example_goboard_impl_errNoLiberty)] }
def FnPlayStoneLibertiesSaid : Prop := fnPlayStoneLibertiesRow.holds Tryd.pinned (OpenSpec.ofChange fnPlayStoneLibertiesSpec)

/-- ITS FALSE NEIGHBOUR: 'it returns false'. Refute it at one input. -/
def fnPlayStoneLibertiesWrong : ChangeSpec := { name := "fnPlayStoneLiberties", vars := ["loop.example/goboard/impl.errOccupied", "loop.example/goboard/impl.errNoLiberty"], fn := fun _ => fun
  | [d, g1, g2] => { results := [.lit (.bool false)], args := [d], vars := [g1, g2] }
  | _ => none }
def FnPlayStoneLibertiesWrongFalsely : Prop := fnPlayStoneLibertiesRow.holds Tryd.pinned (OpenSpec.ofChange fnPlayStoneLibertiesWrong)

/-- 'laws.FnPossiblePoints': WHATEVER THE INPUT: true; the input reads as it did. -/
def fnPossiblePointsSpec : ChangeSpec := { name := "fnPossiblePoints", vars := ["loop.example/goboard/impl.errOccupied", "loop.example/goboard/impl.errNoLiberty"], fn := fun _ => fun
  | [d, g1, g2] => { results := [.lit (.bool true)], args := [d], vars := [g1, g2] }
  | _ => none }
def fnPossiblePointsRow : OpenClaim := { program := "ytpogjegihhljpaadoor", sum := "b86c5429bf45cc50937552de4f105f748cb1ca6f7ab842b7abebf2e56ea43b81", func := "loop.example/goboard/laws.FnPossiblePoints", spec := "fnPossiblePoints", named := ["math/bits.deBruijn64tab", "loop.example/goboard/impl.errOccupied", "loop.example/goboard/impl.errNoLiberty"], ifaces := true, apart := false, laid := [("math/bits.deBruijn64tab", laid_math_bits_deBruijn64tab), ("loop.example/goboard/impl.errOccupied", laid_loop_example_goboard_impl_errOccupied), ("loop.example/goboard/impl.errNoLiberty", laid_loop_example_goboard_impl_errNoLiberty)] }
def FnPossiblePointsSaid : Prop := fnPossiblePointsRow.holds Tryd.pinned (OpenSpec.ofChange fnPossiblePointsSpec)

/-- ITS FALSE NEIGHBOUR: 'it returns false'. Refute it at one input. -/
def fnPossiblePointsWrong : ChangeSpec := { name := "fnPossiblePoints", vars := ["loop.example/goboard/impl.errOccupied", "loop.example/goboard/impl.errNoLiberty"], fn := fun _ => fun
  | [d, g1, g2] => { results := [.lit (.bool false)], args := [d], vars := [g1, g2] }
  | _ => none }
def FnPossiblePointsWrongFalsely : Prop := fnPossiblePointsRow.holds Tryd.pinned (OpenSpec.ofChange fnPossiblePointsWrong)

/-- 'laws.FnCapturingPoints': WHATEVER THE INPUT: true; the input reads as it did. -/
def fnCapturingPointsSpec : ChangeSpec := { name := "fnCapturingPoints", vars := ["loop.example/goboard/impl.errOccupied", "loop.example/goboard/impl.errNoLiberty"], fn := fun _ => fun
  | [d, g1, g2] => { results := [.lit (.bool true)], args := [d], vars := [g1, g2] }
  | _ => none }
def fnCapturingPointsRow : OpenClaim := { program := "ytpogjegihhljpaadoor", sum := "b86c5429bf45cc50937552de4f105f748cb1ca6f7ab842b7abebf2e56ea43b81", func := "loop.example/goboard/laws.FnCapturingPoints", spec := "fnCapturingPoints", named := ["math/bits.deBruijn64tab", "loop.example/goboard/impl.errOccupied", "loop.example/goboard/impl.errNoLiberty"], ifaces := true, apart := false, laid := [("math/bits.deBruijn64tab", laid_math_bits_deBruijn64tab), ("loop.example/goboard/impl.errOccupied", laid_loop_example_goboard_impl_errOccupied), ("loop.example/goboard/impl.errNoLiberty", laid_loop_example_goboard_impl_errNoLiberty)] }
def FnCapturingPointsSaid : Prop := fnCapturingPointsRow.holds Tryd.pinned (OpenSpec.ofChange fnCapturingPointsSpec)

/-- ITS FALSE NEIGHBOUR: 'it returns false'. Refute it at one input. -/
def fnCapturingPointsWrong : ChangeSpec := { name := "fnCapturingPoints", vars := ["loop.example/goboard/impl.errOccupied", "loop.example/goboard/impl.errNoLiberty"], fn := fun _ => fun
  | [d, g1, g2] => { results := [.lit (.bool false)], args := [d], vars := [g1, g2] }
  | _ => none }
def FnCapturingPointsWrongFalsely : Prop := fnCapturingPointsRow.holds Tryd.pinned (OpenSpec.ofChange fnCapturingPointsWrong)

/-- 'laws.FnEyesOf': WHATEVER THE INPUT: true; the input reads as it did. -/
def fnEyesOfSpec : ChangeSpec := { name := "fnEyesOf", fn := fun _ => fun
  | [d] => { results := [.lit (.bool true)], args := [d] }
  | _ => none }
def fnEyesOfRow : OpenClaim := { program := "ytpogjegihhljpaadoor", sum := "b86c5429bf45cc50937552de4f105f748cb1ca6f7ab842b7abebf2e56ea43b81", func := "loop.example/goboard/laws.FnEyesOf", spec := "fnEyesOf", named := ["math/bits.deBruijn64tab"], apart := false, laid := [("math/bits.deBruijn64tab", laid_math_bits_deBruijn64tab)] }
def FnEyesOfSaid : Prop := fnEyesOfRow.holds Tryd.pinned (OpenSpec.ofChange fnEyesOfSpec)

/-- ITS FALSE NEIGHBOUR: 'it returns false'. Refute it at one input. -/
def fnEyesOfWrong : ChangeSpec := { name := "fnEyesOf", fn := fun _ => fun
  | [d] => { results := [.lit (.bool false)], args := [d] }
  | _ => none }
def FnEyesOfWrongFalsely : Prop := fnEyesOfRow.holds Tryd.pinned (OpenSpec.ofChange fnEyesOfWrong)

/-- 'laws.FnPlayStoneCount': WHATEVER THE INPUT: true; the input reads as it did. -/
def fnPlayStoneCountSpec : ChangeSpec := { name := "fnPlayStoneCount", vars := ["loop.example/goboard/impl.errOccupied", "loop.example/goboard/impl.errNoLiberty"], fn := fun _ => fun
  | [d, g1, g2] => { results := [.lit (.bool true)], args := [d], vars := [g1, g2] }
  | _ => none }
def fnPlayStoneCountRow : OpenClaim := { program := "ytpogjegihhljpaadoor", sum := "b86c5429bf45cc50937552de4f105f748cb1ca6f7ab842b7abebf2e56ea43b81", func := "loop.example/goboard/laws.FnPlayStoneCount", spec := "fnPlayStoneCount", named := ["loop.example/goboard/impl.errOccupied", "loop.example/goboard/impl.errNoLiberty", "math/bits.deBruijn64tab"], ifaces := true, apart := false, laid := [("math/bits.deBruijn64tab", laid_math_bits_deBruijn64tab), ("loop.example/goboard/impl.errOccupied", laid_loop_example_goboard_impl_errOccupied), ("loop.example/goboard/impl.errNoLiberty", laid_loop_example_goboard_impl_errNoLiberty)] }
def FnPlayStoneCountSaid : Prop := fnPlayStoneCountRow.holds Tryd.pinned (OpenSpec.ofChange fnPlayStoneCountSpec)

/-- ITS FALSE NEIGHBOUR: 'it returns false'. Refute it at one input. -/
def fnPlayStoneCountWrong : ChangeSpec := { name := "fnPlayStoneCount", vars := ["loop.example/goboard/impl.errOccupied", "loop.example/goboard/impl.errNoLiberty"], fn := fun _ => fun
  | [d, g1, g2] => { results := [.lit (.bool false)], args := [d], vars := [g1, g2] }
  | _ => none }
def FnPlayStoneCountWrongFalsely : Prop := fnPlayStoneCountRow.holds Tryd.pinned (OpenSpec.ofChange fnPlayStoneCountWrong)

/-- 'laws.FnExactPlayStone': WHATEVER THE INPUT: true; the input reads as it did. -/
def fnExactPlayStoneSpec : ChangeSpec := { name := "fnExactPlayStone", vars := ["loop.example/goboard/impl.errOccupied", "loop.example/goboard/impl.errNoLiberty"], fn := fun _ => fun
  | [d1, d2, d3, d4, g1, g2] => { results := [.lit (.bool true)], args := [d1, d2, d3, d4], vars := [g1, g2] }
  | _ => none }
def fnExactPlayStoneRow : OpenClaim := { program := "ytpogjegihhljpaadoor", sum := "b86c5429bf45cc50937552de4f105f748cb1ca6f7ab842b7abebf2e56ea43b81", func := "loop.example/goboard/laws.FnExactPlayStone", spec := "fnExactPlayStone", named := ["loop.example/goboard/impl.errOccupied", "loop.example/goboard/impl.errNoLiberty", "math/bits.deBruijn64tab"], ifaces := true, apart := false, laid := [("math/bits.deBruijn64tab", laid_math_bits_deBruijn64tab), ("loop.example/goboard/impl.errOccupied", laid_loop_example_goboard_impl_errOccupied), ("loop.example/goboard/impl.errNoLiberty", laid_loop_example_goboard_impl_errNoLiberty)] }
def FnExactPlayStoneSaid : Prop := fnExactPlayStoneRow.holds Tryd.pinned (OpenSpec.ofChange fnExactPlayStoneSpec)

/-- ITS FALSE NEIGHBOUR: 'it returns false'. Refute it at one input. -/
def fnExactPlayStoneWrong : ChangeSpec := { name := "fnExactPlayStone", vars := ["loop.example/goboard/impl.errOccupied", "loop.example/goboard/impl.errNoLiberty"], fn := fun _ => fun
  | [d1, d2, d3, d4, g1, g2] => { results := [.lit (.bool false)], args := [d1, d2, d3, d4], vars := [g1, g2] }
  | _ => none }
def FnExactPlayStoneWrongFalsely : Prop := fnExactPlayStoneRow.holds Tryd.pinned (OpenSpec.ofChange fnExactPlayStoneWrong)

/-- 'laws.FnExactPossiblePoints': WHATEVER THE INPUT: true; the input reads as it did. -/
def fnExactPossiblePointsSpec : ChangeSpec := { name := "fnExactPossiblePoints", vars := ["loop.example/goboard/impl.errOccupied", "loop.example/goboard/impl.errNoLiberty"], fn := fun _ => fun
  | [d1, d2, d3, g1, g2] => { results := [.lit (.bool true)], args := [d1, d2, d3], vars := [g1, g2] }
  | _ => none }
def fnExactPossiblePointsRow : OpenClaim := { program := "ytpogjegihhljpaadoor", sum := "b86c5429bf45cc50937552de4f105f748cb1ca6f7ab842b7abebf2e56ea43b81", func := "loop.example/goboard/laws.FnExactPossiblePoints", spec := "fnExactPossiblePoints", named := ["math/bits.deBruijn64tab", "loop.example/goboard/impl.errOccupied", "loop.example/goboard/impl.errNoLiberty"], ifaces := true, apart := false, laid := [("math/bits.deBruijn64tab", laid_math_bits_deBruijn64tab), ("loop.example/goboard/impl.errOccupied", laid_loop_example_goboard_impl_errOccupied), ("loop.example/goboard/impl.errNoLiberty", laid_loop_example_goboard_impl_errNoLiberty)] }
def FnExactPossiblePointsSaid : Prop := fnExactPossiblePointsRow.holds Tryd.pinned (OpenSpec.ofChange fnExactPossiblePointsSpec)

/-- ITS FALSE NEIGHBOUR: 'it returns false'. Refute it at one input. -/
def fnExactPossiblePointsWrong : ChangeSpec := { name := "fnExactPossiblePoints", vars := ["loop.example/goboard/impl.errOccupied", "loop.example/goboard/impl.errNoLiberty"], fn := fun _ => fun
  | [d1, d2, d3, g1, g2] => { results := [.lit (.bool false)], args := [d1, d2, d3], vars := [g1, g2] }
  | _ => none }
def FnExactPossiblePointsWrongFalsely : Prop := fnExactPossiblePointsRow.holds Tryd.pinned (OpenSpec.ofChange fnExactPossiblePointsWrong)

/-- 'laws.FnExactCapturingPoints': WHATEVER THE INPUT: true; the input reads as it did. -/
def fnExactCapturingPointsSpec : ChangeSpec := { name := "fnExactCapturingPoints", vars := ["loop.example/goboard/impl.errOccupied", "loop.example/goboard/impl.errNoLiberty"], fn := fun _ => fun
  | [d1, d2, g1, g2] => { results := [.lit (.bool true)], args := [d1, d2], vars := [g1, g2] }
  | _ => none }
def fnExactCapturingPointsRow : OpenClaim := { program := "ytpogjegihhljpaadoor", sum := "b86c5429bf45cc50937552de4f105f748cb1ca6f7ab842b7abebf2e56ea43b81", func := "loop.example/goboard/laws.FnExactCapturingPoints", spec := "fnExactCapturingPoints", named := ["math/bits.deBruijn64tab", "loop.example/goboard/impl.errOccupied", "loop.example/goboard/impl.errNoLiberty"], ifaces := true, apart := false, laid := [("math/bits.deBruijn64tab", laid_math_bits_deBruijn64tab), ("loop.example/goboard/impl.errOccupied", laid_loop_example_goboard_impl_errOccupied), ("loop.example/goboard/impl.errNoLiberty", laid_loop_example_goboard_impl_errNoLiberty)] }
def FnExactCapturingPointsSaid : Prop := fnExactCapturingPointsRow.holds Tryd.pinned (OpenSpec.ofChange fnExactCapturingPointsSpec)

/-- ITS FALSE NEIGHBOUR: 'it returns false'. Refute it at one input. -/
def fnExactCapturingPointsWrong : ChangeSpec := { name := "fnExactCapturingPoints", vars := ["loop.example/goboard/impl.errOccupied", "loop.example/goboard/impl.errNoLiberty"], fn := fun _ => fun
  | [d1, d2, g1, g2] => { results := [.lit (.bool false)], args := [d1, d2], vars := [g1, g2] }
  | _ => none }
def FnExactCapturingPointsWrongFalsely : Prop := fnExactCapturingPointsRow.holds Tryd.pinned (OpenSpec.ofChange fnExactCapturingPointsWrong)

/- THE SECOND FORM. 'bulk': how many values and letters a reading holds, each counted each time it is reached (what is shared counts as often as it is met; a slice's spare places count too). A statement '..UptoSaid' is the law's where the arguments, and the package variables that the reading takes, are together of bulk at most 1048576: NARROWER than '..Said'. Prove '..Said' where nothing that the law and all that it calls make is longer than what came in: it says more and counts as full. Else prove '..UptoSaid'. A law counts once. -/
mutual
def uptoBulk {H : Type} : DataW H → Nat
  | .lit (.string bytes) => bytes.length + 1
  | .lit _ => 1
  | .nil => 1
  | .ptr d => uptoBulk d + 1
  | .slice elems spare => uptoBulkAll elems + uptoBulkAll spare + 1
  | .agg parts => uptoBulkAll parts + 1
  | .iface _ d => uptoBulk d + 1
  | .map entries => uptoBulkEntries entries + 1
  | .held _ => 1
def uptoBulkAll {H : Type} : List (DataW H) → Nat
  | [] => 0
  | d :: r => uptoBulk d + uptoBulkAll r
def uptoBulkEntries {H : Type} : List (Lit × DataW H) → Nat
  | [] => 0
  | x :: r => uptoBulkEntry x + uptoBulkEntries r
def uptoBulkEntry {H : Type} : Lit × DataW H → Nat
  | (.string bytes, d) => bytes.length + uptoBulk d + 1
  | (_, d) => uptoBulk d + 1
 end
def uptoSmall : (H : Type) → List (DataW H) → Bool := fun _ ds => decide (uptoBulkAll ds ≤ 1048576)
def OpenSpec.upto (s : _root_.Go.ChangeSpec) : _root_.Go.OpenSpec := { _root_.Go.OpenSpec.ofChange s with cond := some uptoSmall }

/-- 'laws.FnPlayStone', WHERE WHAT IT READS IS OF BULK AT MOST 1048576: true; the input reads as it did. -/
def fnPlayStoneUptoRow : OpenClaim := { program := "ytpogjegihhljpaadoor", sum := "b86c5429bf45cc50937552de4f105f748cb1ca6f7ab842b7abebf2e56ea43b81", func := "loop.example/goboard/laws.FnPlayStone", spec := "fnPlayStone", named := ["loop.example/goboard/impl.errOccupied", "loop.example/goboard/impl.errNoLiberty", "math/bits.deBruijn64tab"], ifaces := true, apart := false, laid := [("math/bits.deBruijn64tab", laid_math_bits_deBruijn64tab), ("loop.example/goboard/impl.errOccupied", laid_loop_example_goboard_impl_errOccupied), ("loop.example/goboard/impl.errNoLiberty", laid_loop_example_goboard_impl_errNoLiberty)], narrowed := true }
def FnPlayStoneUptoSaid : Prop := fnPlayStoneUptoRow.holds Tryd.pinned (OpenSpec.upto fnPlayStoneSpec)

/-- 'laws.FnPlayStoneLiberties', WHERE WHAT IT READS IS OF BULK AT MOST 1048576: true; the input reads as it did. -/
def fnPlayStoneLibertiesUptoRow : OpenClaim := { program := "ytpogjegihhljpaadoor", sum := "b86c5429bf45cc50937552de4f105f748cb1ca6f7ab842b7abebf2e56ea43b81", func := "loop.example/goboard/laws.FnPlayStoneLiberties", spec := "fnPlayStoneLiberties", named := ["loop.example/goboard/impl.errOccupied", "loop.example/goboard/impl.errNoLiberty", "math/bits.deBruijn64tab"], ifaces := true, apart := false, laid := [("math/bits.deBruijn64tab", laid_math_bits_deBruijn64tab), ("loop.example/goboard/impl.errOccupied", laid_loop_example_goboard_impl_errOccupied), ("loop.example/goboard/impl.errNoLiberty", laid_loop_example_goboard_impl_errNoLiberty)], narrowed := true }
def FnPlayStoneLibertiesUptoSaid : Prop := fnPlayStoneLibertiesUptoRow.holds Tryd.pinned (OpenSpec.upto fnPlayStoneLibertiesSpec)

/-- 'laws.FnPossiblePoints', WHERE WHAT IT READS IS OF BULK AT MOST 1048576: true; the input reads as it did. -/
def fnPossiblePointsUptoRow : OpenClaim := { program := "ytpogjegihhljpaadoor", sum := "b86c5429bf45cc50937552de4f105f748cb1ca6f7ab842b7abebf2e56ea43b81", func := "loop.example/goboard/laws.FnPossiblePoints", spec := "fnPossiblePoints", named := ["math/bits.deBruijn64tab", "loop.example/goboard/impl.errOccupied", "loop.example/goboard/impl.errNoLiberty"], ifaces := true, apart := false, laid := [("math/bits.deBruijn64tab", laid_math_bits_deBruijn64tab), ("loop.example/goboard/impl.errOccupied", laid_loop_example_goboard_impl_errOccupied), ("loop.example/goboard/impl.errNoLiberty", laid_loop_example_goboard_impl_errNoLiberty)], narrowed := true }
def FnPossiblePointsUptoSaid : Prop := fnPossiblePointsUptoRow.holds Tryd.pinned (OpenSpec.upto fnPossiblePointsSpec)

/-- 'laws.FnCapturingPoints', WHERE WHAT IT READS IS OF BULK AT MOST 1048576: true; the input reads as it did. -/
def fnCapturingPointsUptoRow : OpenClaim := { program := "ytpogjegihhljpaadoor", sum := "b86c5429bf45cc50937552de4f105f748cb1ca6f7ab842b7abebf2e56ea43b81", func := "loop.example/goboard/laws.FnCapturingPoints", spec := "fnCapturingPoints", named := ["math/bits.deBruijn64tab", "loop.example/goboard/impl.errOccupied", "loop.example/goboard/impl.errNoLiberty"], ifaces := true, apart := false, laid := [("math/bits.deBruijn64tab", laid_math_bits_deBruijn64tab), ("loop.example/goboard/impl.errOccupied", laid_loop_example_goboard_impl_errOccupied), ("loop.example/goboard/impl.errNoLiberty", laid_loop_example_goboard_impl_errNoLiberty)], narrowed := true }
def FnCapturingPointsUptoSaid : Prop := fnCapturingPointsUptoRow.holds Tryd.pinned (OpenSpec.upto fnCapturingPointsSpec)

/-- 'laws.FnEyesOf', WHERE WHAT IT READS IS OF BULK AT MOST 1048576: true; the input reads as it did. -/
def fnEyesOfUptoRow : OpenClaim := { program := "ytpogjegihhljpaadoor", sum := "b86c5429bf45cc50937552de4f105f748cb1ca6f7ab842b7abebf2e56ea43b81", func := "loop.example/goboard/laws.FnEyesOf", spec := "fnEyesOf", named := ["math/bits.deBruijn64tab"], apart := false, laid := [("math/bits.deBruijn64tab", laid_math_bits_deBruijn64tab)], narrowed := true }
def FnEyesOfUptoSaid : Prop := fnEyesOfUptoRow.holds Tryd.pinned (OpenSpec.upto fnEyesOfSpec)

/-- 'laws.FnPlayStoneCount', WHERE WHAT IT READS IS OF BULK AT MOST 1048576: true; the input reads as it did. -/
def fnPlayStoneCountUptoRow : OpenClaim := { program := "ytpogjegihhljpaadoor", sum := "b86c5429bf45cc50937552de4f105f748cb1ca6f7ab842b7abebf2e56ea43b81", func := "loop.example/goboard/laws.FnPlayStoneCount", spec := "fnPlayStoneCount", named := ["loop.example/goboard/impl.errOccupied", "loop.example/goboard/impl.errNoLiberty", "math/bits.deBruijn64tab"], ifaces := true, apart := false, laid := [("math/bits.deBruijn64tab", laid_math_bits_deBruijn64tab), ("loop.example/goboard/impl.errOccupied", laid_loop_example_goboard_impl_errOccupied), ("loop.example/goboard/impl.errNoLiberty", laid_loop_example_goboard_impl_errNoLiberty)], narrowed := true }
def FnPlayStoneCountUptoSaid : Prop := fnPlayStoneCountUptoRow.holds Tryd.pinned (OpenSpec.upto fnPlayStoneCountSpec)

/-- 'laws.FnExactPlayStone', WHERE WHAT IT READS IS OF BULK AT MOST 1048576: true; the input reads as it did. -/
def fnExactPlayStoneUptoRow : OpenClaim := { program := "ytpogjegihhljpaadoor", sum := "b86c5429bf45cc50937552de4f105f748cb1ca6f7ab842b7abebf2e56ea43b81", func := "loop.example/goboard/laws.FnExactPlayStone", spec := "fnExactPlayStone", named := ["loop.example/goboard/impl.errOccupied", "loop.example/goboard/impl.errNoLiberty", "math/bits.deBruijn64tab"], ifaces := true, apart := false, laid := [("math/bits.deBruijn64tab", laid_math_bits_deBruijn64tab), ("loop.example/goboard/impl.errOccupied", laid_loop_example_goboard_impl_errOccupied), ("loop.example/goboard/impl.errNoLiberty", laid_loop_example_goboard_impl_errNoLiberty)], narrowed := true }
def FnExactPlayStoneUptoSaid : Prop := fnExactPlayStoneUptoRow.holds Tryd.pinned (OpenSpec.upto fnExactPlayStoneSpec)

/-- 'laws.FnExactPossiblePoints', WHERE WHAT IT READS IS OF BULK AT MOST 1048576: true; the input reads as it did. -/
def fnExactPossiblePointsUptoRow : OpenClaim := { program := "ytpogjegihhljpaadoor", sum := "b86c5429bf45cc50937552de4f105f748cb1ca6f7ab842b7abebf2e56ea43b81", func := "loop.example/goboard/laws.FnExactPossiblePoints", spec := "fnExactPossiblePoints", named := ["math/bits.deBruijn64tab", "loop.example/goboard/impl.errOccupied", "loop.example/goboard/impl.errNoLiberty"], ifaces := true, apart := false, laid := [("math/bits.deBruijn64tab", laid_math_bits_deBruijn64tab), ("loop.example/goboard/impl.errOccupied", laid_loop_example_goboard_impl_errOccupied), ("loop.example/goboard/impl.errNoLiberty", laid_loop_example_goboard_impl_errNoLiberty)], narrowed := true }
def FnExactPossiblePointsUptoSaid : Prop := fnExactPossiblePointsUptoRow.holds Tryd.pinned (OpenSpec.upto fnExactPossiblePointsSpec)

/-- 'laws.FnExactCapturingPoints', WHERE WHAT IT READS IS OF BULK AT MOST 1048576: true; the input reads as it did. -/
def fnExactCapturingPointsUptoRow : OpenClaim := { program := "ytpogjegihhljpaadoor", sum := "b86c5429bf45cc50937552de4f105f748cb1ca6f7ab842b7abebf2e56ea43b81", func := "loop.example/goboard/laws.FnExactCapturingPoints", spec := "fnExactCapturingPoints", named := ["math/bits.deBruijn64tab", "loop.example/goboard/impl.errOccupied", "loop.example/goboard/impl.errNoLiberty"], ifaces := true, apart := false, laid := [("math/bits.deBruijn64tab", laid_math_bits_deBruijn64tab), ("loop.example/goboard/impl.errOccupied", laid_loop_example_goboard_impl_errOccupied), ("loop.example/goboard/impl.errNoLiberty", laid_loop_example_goboard_impl_errNoLiberty)], narrowed := true }
def FnExactCapturingPointsUptoSaid : Prop := fnExactCapturingPointsUptoRow.holds Tryd.pinned (OpenSpec.upto fnExactCapturingPointsSpec)

end Rows
end Go.Proofs.YtpogjegihhljpaaDoor
