/-
  No cell of these rows narrows 'for every input' (looked for: loops, veiled, ifaces, maps, wideKeys, modest, calm, conditions, laid).
  DERIVED. THE GIVEN ROWS OF THIS SEAT. 10 by the template 'for every input the law returns true; each argument reads behind the call as it read before'; 0 by the template 'total and deterministic' (their statements: YtjolappndbmmaaaTotals.lean).
  GIVEN WITH THE SEED: the statements are not yours to turn. If you find one false, say at which input.
  Laid BY PROGRAM, IN A SANDBOX (cutbox-rows.mjs): the forced cells as the released guide's own fill.sh prints them over the translation a3ccabce43bed855… (all of the seat's roots in one cut). By AI agents, Wed Nov 11 2026. No macro, syntax, notation, axiom, sorry.
-/
import Derived.Test.YtjolappndbmmaaaChecked
import GoSem.Claim
import GoSem.ClaimJoined
import GoSem.ClaimMapViews
import Derived.JoinedTies
import Derived.KernelRfl
namespace Go.Proofs.Ytjolappndbmmaaa
/- THE CELL 'sum', in the pinned program and in every row, IS THE sha256 OF THE DUMP (.gsa) THAT YtjolappndbmmaaaProg.lean LOADS. Nothing in Lean hashes anything: it is a label: what it is worth is what the hold of that sum in a sandbox is worth. -/
noncomputable def Try.pinned : Pinned := { name := "ytjolappndbmmaaa", sum := "a3ccabce43bed855a6b81ff65c98560488ac3a289202a99a967b4fc81ec33af9", checked := Try.checked }
namespace Rows
def none {H : Type} : Left H := { results := [], args := [] }

/-- 'laws.FnKeyOf': WHATEVER THE INPUT: true; the input reads as it did. -/
def fnKeyOfSpec : ChangeSpec := { name := "fnKeyOf", fn := fun _ => fun
  | [d] => { results := [.lit (.bool true)], args := [d] }
  | _ => none }
def fnKeyOfRow : OpenClaim := { program := "ytjolappndbmmaaa", sum := "a3ccabce43bed855a6b81ff65c98560488ac3a289202a99a967b4fc81ec33af9", func := "loop.example/goboard/laws.FnKeyOf", spec := "fnKeyOf", apart := false }
def FnKeyOfSaid : Prop := fnKeyOfRow.holds Try.pinned (OpenSpec.ofChange fnKeyOfSpec)

/-- ITS FALSE NEIGHBOUR: 'it returns false'. Refute it at one input. -/
def fnKeyOfWrong : ChangeSpec := { name := "fnKeyOf", fn := fun _ => fun
  | [d] => { results := [.lit (.bool false)], args := [d] }
  | _ => none }
def FnKeyOfWrongFalsely : Prop := fnKeyOfRow.holds Try.pinned (OpenSpec.ofChange fnKeyOfWrong)

/-- 'laws.FnExactKeyOf': WHATEVER THE INPUT: true; the input reads as it did. -/
def fnExactKeyOfSpec : ChangeSpec := { name := "fnExactKeyOf", fn := fun _ => fun
  | [d1, d2] => { results := [.lit (.bool true)], args := [d1, d2] }
  | _ => none }
def fnExactKeyOfRow : OpenClaim := { program := "ytjolappndbmmaaa", sum := "a3ccabce43bed855a6b81ff65c98560488ac3a289202a99a967b4fc81ec33af9", func := "loop.example/goboard/laws.FnExactKeyOf", spec := "fnExactKeyOf", apart := false }
def FnExactKeyOfSaid : Prop := fnExactKeyOfRow.holds Try.pinned (OpenSpec.ofChange fnExactKeyOfSpec)

/-- ITS FALSE NEIGHBOUR: 'it returns false'. Refute it at one input. -/
def fnExactKeyOfWrong : ChangeSpec := { name := "fnExactKeyOf", fn := fun _ => fun
  | [d1, d2] => { results := [.lit (.bool false)], args := [d1, d2] }
  | _ => none }
def FnExactKeyOfWrongFalsely : Prop := fnExactKeyOfRow.holds Try.pinned (OpenSpec.ofChange fnExactKeyOfWrong)

/-- 'laws.FnInvertPattern': WHATEVER THE INPUT: true; the input reads as it did. -/
def fnInvertPatternSpec : ChangeSpec := { name := "fnInvertPattern", fn := fun _ => fun
  | [d] => { results := [.lit (.bool true)], args := [d] }
  | _ => none }
def fnInvertPatternRow : OpenClaim := { program := "ytjolappndbmmaaa", sum := "a3ccabce43bed855a6b81ff65c98560488ac3a289202a99a967b4fc81ec33af9", func := "loop.example/goboard/laws.FnInvertPattern", spec := "fnInvertPattern", apart := false }
def FnInvertPatternSaid : Prop := fnInvertPatternRow.holds Try.pinned (OpenSpec.ofChange fnInvertPatternSpec)

/-- ITS FALSE NEIGHBOUR: 'it returns false'. Refute it at one input. -/
def fnInvertPatternWrong : ChangeSpec := { name := "fnInvertPattern", fn := fun _ => fun
  | [d] => { results := [.lit (.bool false)], args := [d] }
  | _ => none }
def FnInvertPatternWrongFalsely : Prop := fnInvertPatternRow.holds Try.pinned (OpenSpec.ofChange fnInvertPatternWrong)

/-- 'laws.FnExactInvertPattern': WHATEVER THE INPUT: true; the input reads as it did. -/
def fnExactInvertPatternSpec : ChangeSpec := { name := "fnExactInvertPattern", fn := fun _ => fun
  | [d] => { results := [.lit (.bool true)], args := [d] }
  | _ => none }
def fnExactInvertPatternRow : OpenClaim := { program := "ytjolappndbmmaaa", sum := "a3ccabce43bed855a6b81ff65c98560488ac3a289202a99a967b4fc81ec33af9", func := "loop.example/goboard/laws.FnExactInvertPattern", spec := "fnExactInvertPattern", apart := false }
def FnExactInvertPatternSaid : Prop := fnExactInvertPatternRow.holds Try.pinned (OpenSpec.ofChange fnExactInvertPatternSpec)

/-- ITS FALSE NEIGHBOUR: 'it returns false'. Refute it at one input. -/
def fnExactInvertPatternWrong : ChangeSpec := { name := "fnExactInvertPattern", fn := fun _ => fun
  | [d] => { results := [.lit (.bool false)], args := [d] }
  | _ => none }
def FnExactInvertPatternWrongFalsely : Prop := fnExactInvertPatternRow.holds Try.pinned (OpenSpec.ofChange fnExactInvertPatternWrong)

/-- 'laws.FnCanonicalPattern': WHATEVER THE INPUT: true; the input reads as it did. -/
def fnCanonicalPatternSpec : ChangeSpec := { name := "fnCanonicalPattern", fn := fun _ => fun
  | [d] => { results := [.lit (.bool true)], args := [d] }
  | _ => none }
def fnCanonicalPatternRow : OpenClaim := { program := "ytjolappndbmmaaa", sum := "a3ccabce43bed855a6b81ff65c98560488ac3a289202a99a967b4fc81ec33af9", func := "loop.example/goboard/laws.FnCanonicalPattern", spec := "fnCanonicalPattern", apart := false }
def FnCanonicalPatternSaid : Prop := fnCanonicalPatternRow.holds Try.pinned (OpenSpec.ofChange fnCanonicalPatternSpec)

/-- ITS FALSE NEIGHBOUR: 'it returns false'. Refute it at one input. -/
def fnCanonicalPatternWrong : ChangeSpec := { name := "fnCanonicalPattern", fn := fun _ => fun
  | [d] => { results := [.lit (.bool false)], args := [d] }
  | _ => none }
def FnCanonicalPatternWrongFalsely : Prop := fnCanonicalPatternRow.holds Try.pinned (OpenSpec.ofChange fnCanonicalPatternWrong)

/-- 'laws.FnExactCanonicalPattern': WHATEVER THE INPUT: true; the input reads as it did. -/
def fnExactCanonicalPatternSpec : ChangeSpec := { name := "fnExactCanonicalPattern", fn := fun _ => fun
  | [d] => { results := [.lit (.bool true)], args := [d] }
  | _ => none }
def fnExactCanonicalPatternRow : OpenClaim := { program := "ytjolappndbmmaaa", sum := "a3ccabce43bed855a6b81ff65c98560488ac3a289202a99a967b4fc81ec33af9", func := "loop.example/goboard/laws.FnExactCanonicalPattern", spec := "fnExactCanonicalPattern", apart := false }
def FnExactCanonicalPatternSaid : Prop := fnExactCanonicalPatternRow.holds Try.pinned (OpenSpec.ofChange fnExactCanonicalPatternSpec)

/-- ITS FALSE NEIGHBOUR: 'it returns false'. Refute it at one input. -/
def fnExactCanonicalPatternWrong : ChangeSpec := { name := "fnExactCanonicalPattern", fn := fun _ => fun
  | [d] => { results := [.lit (.bool false)], args := [d] }
  | _ => none }
def FnExactCanonicalPatternWrongFalsely : Prop := fnExactCanonicalPatternRow.holds Try.pinned (OpenSpec.ofChange fnExactCanonicalPatternWrong)

/-- 'laws.FnHotOrder': WHATEVER THE INPUT: true; the input reads as it did. -/
def fnHotOrderSpec : ChangeSpec := { name := "fnHotOrder", fn := fun _ => fun
  | [d] => { results := [.lit (.bool true)], args := [d] }
  | _ => none }
def fnHotOrderRow : OpenClaim := { program := "ytjolappndbmmaaa", sum := "a3ccabce43bed855a6b81ff65c98560488ac3a289202a99a967b4fc81ec33af9", func := "loop.example/goboard/laws.FnHotOrder", spec := "fnHotOrder", unfollowed := true, recurses := true, apart := false }
def FnHotOrderSaid : Prop := fnHotOrderRow.holds Try.pinned (OpenSpec.ofChange fnHotOrderSpec)

/-- ITS FALSE NEIGHBOUR: 'it returns false'. Refute it at one input. -/
def fnHotOrderWrong : ChangeSpec := { name := "fnHotOrder", fn := fun _ => fun
  | [d] => { results := [.lit (.bool false)], args := [d] }
  | _ => none }
def FnHotOrderWrongFalsely : Prop := fnHotOrderRow.holds Try.pinned (OpenSpec.ofChange fnHotOrderWrong)

/-- 'laws.FnExactHotOrder': WHATEVER THE INPUT: true; the input reads as it did. -/
def fnExactHotOrderSpec : ChangeSpec := { name := "fnExactHotOrder", fn := fun _ => fun
  | [d] => { results := [.lit (.bool true)], args := [d] }
  | _ => none }
def fnExactHotOrderRow : OpenClaim := { program := "ytjolappndbmmaaa", sum := "a3ccabce43bed855a6b81ff65c98560488ac3a289202a99a967b4fc81ec33af9", func := "loop.example/goboard/laws.FnExactHotOrder", spec := "fnExactHotOrder", unfollowed := true, recurses := true, apart := false }
def FnExactHotOrderSaid : Prop := fnExactHotOrderRow.holds Try.pinned (OpenSpec.ofChange fnExactHotOrderSpec)

/-- ITS FALSE NEIGHBOUR: 'it returns false'. Refute it at one input. -/
def fnExactHotOrderWrong : ChangeSpec := { name := "fnExactHotOrder", fn := fun _ => fun
  | [d] => { results := [.lit (.bool false)], args := [d] }
  | _ => none }
def FnExactHotOrderWrongFalsely : Prop := fnExactHotOrderRow.holds Try.pinned (OpenSpec.ofChange fnExactHotOrderWrong)

/-- 'laws.FnHotScoreBegin': WHATEVER THE INPUT: true; the input reads as it did. -/
def fnHotScoreBeginSpec : ChangeSpec := { name := "fnHotScoreBegin", fn := fun _ => fun
  | [d] => { results := [.lit (.bool true)], args := [d] }
  | _ => none }
def fnHotScoreBeginRow : OpenClaim := { program := "ytjolappndbmmaaa", sum := "a3ccabce43bed855a6b81ff65c98560488ac3a289202a99a967b4fc81ec33af9", func := "loop.example/goboard/laws.FnHotScoreBegin", spec := "fnHotScoreBegin", unfollowed := true, recurses := true, apart := false }
def FnHotScoreBeginSaid : Prop := fnHotScoreBeginRow.holds Try.pinned (OpenSpec.ofChange fnHotScoreBeginSpec)

/-- ITS FALSE NEIGHBOUR: 'it returns false'. Refute it at one input. -/
def fnHotScoreBeginWrong : ChangeSpec := { name := "fnHotScoreBegin", fn := fun _ => fun
  | [d] => { results := [.lit (.bool false)], args := [d] }
  | _ => none }
def FnHotScoreBeginWrongFalsely : Prop := fnHotScoreBeginRow.holds Try.pinned (OpenSpec.ofChange fnHotScoreBeginWrong)

/-- 'laws.FnExactHotScore': WHATEVER THE INPUT: true; the input reads as it did. -/
def fnExactHotScoreSpec : ChangeSpec := { name := "fnExactHotScore", fn := fun _ => fun
  | [d1, d2] => { results := [.lit (.bool true)], args := [d1, d2] }
  | _ => none }
def fnExactHotScoreRow : OpenClaim := { program := "ytjolappndbmmaaa", sum := "a3ccabce43bed855a6b81ff65c98560488ac3a289202a99a967b4fc81ec33af9", func := "loop.example/goboard/laws.FnExactHotScore", spec := "fnExactHotScore", unfollowed := true, recurses := true, apart := false }
def FnExactHotScoreSaid : Prop := fnExactHotScoreRow.holds Try.pinned (OpenSpec.ofChange fnExactHotScoreSpec)

/-- ITS FALSE NEIGHBOUR: 'it returns false'. Refute it at one input. -/
def fnExactHotScoreWrong : ChangeSpec := { name := "fnExactHotScore", fn := fun _ => fun
  | [d1, d2] => { results := [.lit (.bool false)], args := [d1, d2] }
  | _ => none }
def FnExactHotScoreWrongFalsely : Prop := fnExactHotScoreRow.holds Try.pinned (OpenSpec.ofChange fnExactHotScoreWrong)

/- THE SECOND FORM. 'bulk': how many values and letters a reading holds, each counted each time it is reached (what is shared counts as often as it is met; a slice's spare places count too). A statement '..UptoSaid' is the law's where the arguments, and the package variables that the reading takes, are together of bulk at most 1048576: NARROWER than '..Said'. Prove '..Said' where nothing that the law and all that it calls make is longer than what came in: it says more and counts as full. Else prove '..UptoSaid'. A law counts once. -/
mutual
def uptoBulk {H : Type} : DataW H → Nat
  | .lit (.string bytes) => bytes.length + 1
  | .lit _ => 1
  | .nil => 1
  | .ptr d => uptoBulk d + 1
  | .slice elems spare => uptoBulkAll elems + uptoBulkAll spare + 1
  | .agg parts => uptoBulkAll parts + 1
  | .iface _ d => uptoBulk d + 1
  | .map entries => uptoBulkEntries entries + 1
  | .held _ => 1
def uptoBulkAll {H : Type} : List (DataW H) → Nat
  | [] => 0
  | d :: r => uptoBulk d + uptoBulkAll r
def uptoBulkEntries {H : Type} : List (Lit × DataW H) → Nat
  | [] => 0
  | x :: r => uptoBulkEntry x + uptoBulkEntries r
def uptoBulkEntry {H : Type} : Lit × DataW H → Nat
  | (.string bytes, d) => bytes.length + uptoBulk d + 1
  | (_, d) => uptoBulk d + 1
 end
def uptoSmall : (H : Type) → List (DataW H) → Bool := fun _ ds => decide (uptoBulkAll ds ≤ 1048576)
def OpenSpec.upto (s : _root_.Go.ChangeSpec) : _root_.Go.OpenSpec := { _root_.Go.OpenSpec.ofChange s with cond := some uptoSmall }

/-- 'laws.FnKeyOf', WHERE WHAT IT READS IS OF BULK AT MOST 1048576: true; the input reads as it did. -/
def fnKeyOfUptoRow : OpenClaim := { program := "ytjolappndbmmaaa", sum := "a3ccabce43bed855a6b81ff65c98560488ac3a289202a99a967b4fc81ec33af9", func := "loop.example/goboard/laws.FnKeyOf", spec := "fnKeyOf", apart := false, narrowed := true }
def FnKeyOfUptoSaid : Prop := fnKeyOfUptoRow.holds Try.pinned (OpenSpec.upto fnKeyOfSpec)

/-- 'laws.FnExactKeyOf', WHERE WHAT IT READS IS OF BULK AT MOST 1048576: true; the input reads as it did. -/
def fnExactKeyOfUptoRow : OpenClaim := { program := "ytjolappndbmmaaa", sum := "a3ccabce43bed855a6b81ff65c98560488ac3a289202a99a967b4fc81ec33af9", func := "loop.example/goboard/laws.FnExactKeyOf", spec := "fnExactKeyOf", apart := false, narrowed := true }
def FnExactKeyOfUptoSaid : Prop := fnExactKeyOfUptoRow.holds Try.pinned (OpenSpec.upto fnExactKeyOfSpec)

/-- 'laws.FnInvertPattern', WHERE WHAT IT READS IS OF BULK AT MOST 1048576: true; the input reads as it did. -/
def fnInvertPatternUptoRow : OpenClaim := { program := "ytjolappndbmmaaa", sum := "a3ccabce43bed855a6b81ff65c98560488ac3a289202a99a967b4fc81ec33af9", func := "loop.example/goboard/laws.FnInvertPattern", spec := "fnInvertPattern", apart := false, narrowed := true }
def FnInvertPatternUptoSaid : Prop := fnInvertPatternUptoRow.holds Try.pinned (OpenSpec.upto fnInvertPatternSpec)

/-- 'laws.FnExactInvertPattern', WHERE WHAT IT READS IS OF BULK AT MOST 1048576: true; the input reads as it did. -/
def fnExactInvertPatternUptoRow : OpenClaim := { program := "ytjolappndbmmaaa", sum := "a3ccabce43bed855a6b81ff65c98560488ac3a289202a99a967b4fc81ec33af9", func := "loop.example/goboard/laws.FnExactInvertPattern", spec := "fnExactInvertPattern", apart := false, narrowed := true }
def FnExactInvertPatternUptoSaid : Prop := fnExactInvertPatternUptoRow.holds Try.pinned (OpenSpec.upto fnExactInvertPatternSpec)

/-- 'laws.FnCanonicalPattern', WHERE WHAT IT READS IS OF BULK AT MOST 1048576: true; the input reads as it did. -/
def fnCanonicalPatternUptoRow : OpenClaim := { program := "ytjolappndbmmaaa", sum := "a3ccabce43bed855a6b81ff65c98560488ac3a289202a99a967b4fc81ec33af9", func := "loop.example/goboard/laws.FnCanonicalPattern", spec := "fnCanonicalPattern", apart := false, narrowed := true }
def FnCanonicalPatternUptoSaid : Prop := fnCanonicalPatternUptoRow.holds Try.pinned (OpenSpec.upto fnCanonicalPatternSpec)

/-- 'laws.FnExactCanonicalPattern', WHERE WHAT IT READS IS OF BULK AT MOST 1048576: true; the input reads as it did. -/
def fnExactCanonicalPatternUptoRow : OpenClaim := { program := "ytjolappndbmmaaa", sum := "a3ccabce43bed855a6b81ff65c98560488ac3a289202a99a967b4fc81ec33af9", func := "loop.example/goboard/laws.FnExactCanonicalPattern", spec := "fnExactCanonicalPattern", apart := false, narrowed := true }
def FnExactCanonicalPatternUptoSaid : Prop := fnExactCanonicalPatternUptoRow.holds Try.pinned (OpenSpec.upto fnExactCanonicalPatternSpec)

/-- 'laws.FnHotOrder', WHERE WHAT IT READS IS OF BULK AT MOST 1048576: true; the input reads as it did. -/
def fnHotOrderUptoRow : OpenClaim := { program := "ytjolappndbmmaaa", sum := "a3ccabce43bed855a6b81ff65c98560488ac3a289202a99a967b4fc81ec33af9", func := "loop.example/goboard/laws.FnHotOrder", spec := "fnHotOrder", unfollowed := true, recurses := true, apart := false, narrowed := true }
def FnHotOrderUptoSaid : Prop := fnHotOrderUptoRow.holds Try.pinned (OpenSpec.upto fnHotOrderSpec)

/-- 'laws.FnExactHotOrder', WHERE WHAT IT READS IS OF BULK AT MOST 1048576: true; the input reads as it did. -/
def fnExactHotOrderUptoRow : OpenClaim := { program := "ytjolappndbmmaaa", sum := "a3ccabce43bed855a6b81ff65c98560488ac3a289202a99a967b4fc81ec33af9", func := "loop.example/goboard/laws.FnExactHotOrder", spec := "fnExactHotOrder", unfollowed := true, recurses := true, apart := false, narrowed := true }
def FnExactHotOrderUptoSaid : Prop := fnExactHotOrderUptoRow.holds Try.pinned (OpenSpec.upto fnExactHotOrderSpec)

/-- 'laws.FnHotScoreBegin', WHERE WHAT IT READS IS OF BULK AT MOST 1048576: true; the input reads as it did. -/
def fnHotScoreBeginUptoRow : OpenClaim := { program := "ytjolappndbmmaaa", sum := "a3ccabce43bed855a6b81ff65c98560488ac3a289202a99a967b4fc81ec33af9", func := "loop.example/goboard/laws.FnHotScoreBegin", spec := "fnHotScoreBegin", unfollowed := true, recurses := true, apart := false, narrowed := true }
def FnHotScoreBeginUptoSaid : Prop := fnHotScoreBeginUptoRow.holds Try.pinned (OpenSpec.upto fnHotScoreBeginSpec)

/-- 'laws.FnExactHotScore', WHERE WHAT IT READS IS OF BULK AT MOST 1048576: true; the input reads as it did. -/
def fnExactHotScoreUptoRow : OpenClaim := { program := "ytjolappndbmmaaa", sum := "a3ccabce43bed855a6b81ff65c98560488ac3a289202a99a967b4fc81ec33af9", func := "loop.example/goboard/laws.FnExactHotScore", spec := "fnExactHotScore", unfollowed := true, recurses := true, apart := false, narrowed := true }
def FnExactHotScoreUptoSaid : Prop := fnExactHotScoreUptoRow.holds Try.pinned (OpenSpec.upto fnExactHotScoreSpec)

end Rows
end Go.Proofs.Ytjolappndbmmaaa
