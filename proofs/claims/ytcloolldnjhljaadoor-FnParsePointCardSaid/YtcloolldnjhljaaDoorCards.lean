/-
  DERIVED. GIVEN WITH THE SEED: THE CARDS: each row of YtcloolldnjhljaaDoorRows.lean that lists a variable, with what it lists TIED to the program's text (the seventh form; the later family's looks); each row that meets fmt, with fmt's text TOLD by the authors' own Lean function (tested against real Go, not proved from fmt's source: count such statements apart). THE CARD IS WHAT COUNTS. Prove the row's statement (the work); the ties are given (YtcloolldnjhljaaDoorTie.lean); close each card by the builder's one call (the guide's Derived/Test/ToyasCard.lean, 'card_holds'). Laid BY PROGRAM, IN A SANDBOX (cutbox-door.mjs). By AI agents, Wed Nov 11 2026. No macro, syntax, notation, axiom, sorry.
-/
import Derived.Test.YtcloolldnjhljaaDoorRows
import GoSem.ClaimSeven
namespace Go.Proofs.YtcloolldnjhljaaDoor
namespace Rows

/-- THE TIED CARD OF 'laws.FnExactDiagonals'. -/
def fnExactDiagonalsCard : Claim7 := { stood := { row := fnExactDiagonalsRow, standIns := [], harness := (true, "05f72f6205dca9d33c47423fc0b6e69688e936d772d0ffdef33145661f1ab5bb"), looks := false }, kinds := [], alts := [], laidByText := true, laidKinds := [.data], laidTests := true, laidLooks := .later }
def FnExactDiagonalsCardSaid : Prop := Claim7.holds Tryd.pinned (.plain (OpenSpec.ofChange fnExactDiagonalsSpec)) fnExactDiagonalsCard

/-- THE TIED CARD OF 'laws.FnDiagonals'. -/
def fnDiagonalsCard : Claim7 := { stood := { row := fnDiagonalsRow, standIns := [], harness := (true, "05f72f6205dca9d33c47423fc0b6e69688e936d772d0ffdef33145661f1ab5bb"), looks := false }, kinds := [], alts := [], laidByText := true, laidKinds := [.data], laidTests := true, laidLooks := .later }
def FnDiagonalsCardSaid : Prop := Claim7.holds Tryd.pinned (.plain (OpenSpec.ofChange fnDiagonalsSpec)) fnDiagonalsCard

/-- THE TIED CARD OF 'laws.FnDiagonalsCount'. -/
def fnDiagonalsCountCard : Claim7 := { stood := { row := fnDiagonalsCountRow, standIns := [], harness := (true, "05f72f6205dca9d33c47423fc0b6e69688e936d772d0ffdef33145661f1ab5bb"), looks := false }, kinds := [], alts := [], laidByText := true, laidKinds := [.data], laidTests := true, laidLooks := .later }
def FnDiagonalsCountCardSaid : Prop := Claim7.holds Tryd.pinned (.plain (OpenSpec.ofChange fnDiagonalsCountSpec)) fnDiagonalsCountCard

/-- THE TIED CARD OF 'laws.FnExactPointName'. -/
def fnExactPointNameCard : Claim7 := { stood := { row := fnExactPointNameRow, standIns := [], harness := (true, "05f72f6205dca9d33c47423fc0b6e69688e936d772d0ffdef33145661f1ab5bb"), looks := false }, kinds := [], alts := [], laidByText := true, laidKinds := [.data, .data, .data], laidTests := true, laidLooks := .later }
def FnExactPointNameCardSaid : Prop := Claim7.holds Tryd.pinned (.plain (OpenSpec.ofChange fnExactPointNameSpec)) fnExactPointNameCard

/-- THE TIED CARD OF 'laws.FnExactParsePoint'. -/
def fnExactParsePointCard : Claim7 := { stood := { row := fnExactParsePointRow, standIns := [], harness := (true, "05f72f6205dca9d33c47423fc0b6e69688e936d772d0ffdef33145661f1ab5bb"), looks := false }, kinds := [], alts := [], laidByText := true, laidKinds := [.data, .data, .data], laidTests := true, laidLooks := .later }
def FnExactParsePointCardSaid : Prop := Claim7.holds Tryd.pinned (.plain (OpenSpec.ofChange fnExactParsePointSpec)) fnExactParsePointCard

/-- THE TIED CARD OF 'laws.FnPointName'. -/
def fnPointNameCard : Claim7 := { stood := { row := fnPointNameRow, standIns := [], harness := (true, "05f72f6205dca9d33c47423fc0b6e69688e936d772d0ffdef33145661f1ab5bb"), looks := false }, kinds := [], alts := [], laidByText := true, laidKinds := [.data, .data, .data], laidTests := true, laidLooks := .later }
def FnPointNameCardSaid : Prop := Claim7.holds Tryd.pinned (.plain (OpenSpec.ofChange fnPointNameSpec)) fnPointNameCard

/-- THE TIED CARD OF 'laws.FnParsePoint'. -/
def fnParsePointCard : Claim7 := { stood := { row := fnParsePointRow, standIns := [], harness := (true, "05f72f6205dca9d33c47423fc0b6e69688e936d772d0ffdef33145661f1ab5bb"), looks := false }, kinds := [], alts := [], laidByText := true, laidKinds := [.data, .data, .data], laidTests := true, laidLooks := .later }
def FnParsePointCardSaid : Prop := Claim7.holds Tryd.pinned (.plain (OpenSpec.ofChange fnParsePointSpec)) fnParsePointCard

/-- THE TIED CARD OF 'laws.FnValidPoint'. -/
def fnValidPointCard : Claim7 := { stood := { row := fnValidPointRow, standIns := [], harness := (true, "05f72f6205dca9d33c47423fc0b6e69688e936d772d0ffdef33145661f1ab5bb"), looks := false }, kinds := [], alts := [], laidByText := true, laidKinds := [.data, .data, .data], laidTests := true, laidLooks := .later }
def FnValidPointCardSaid : Prop := Claim7.holds Tryd.pinned (.plain (OpenSpec.ofChange fnValidPointSpec)) fnValidPointCard

/-- THE SECOND FORM's CARD OF 'laws.FnExactDiagonals'. -/
def fnExactDiagonalsUptoCard : Claim7 := { stood := { row := fnExactDiagonalsUptoRow, standIns := [], harness := (true, "05f72f6205dca9d33c47423fc0b6e69688e936d772d0ffdef33145661f1ab5bb"), looks := false }, kinds := [], alts := [], laidByText := true, laidKinds := [.data], laidTests := true, laidLooks := .later }
def FnExactDiagonalsUptoCardSaid : Prop := Claim7.holds Tryd.pinned (.plain (OpenSpec.upto fnExactDiagonalsSpec)) fnExactDiagonalsUptoCard

/-- THE SECOND FORM's CARD OF 'laws.FnDiagonals'. -/
def fnDiagonalsUptoCard : Claim7 := { stood := { row := fnDiagonalsUptoRow, standIns := [], harness := (true, "05f72f6205dca9d33c47423fc0b6e69688e936d772d0ffdef33145661f1ab5bb"), looks := false }, kinds := [], alts := [], laidByText := true, laidKinds := [.data], laidTests := true, laidLooks := .later }
def FnDiagonalsUptoCardSaid : Prop := Claim7.holds Tryd.pinned (.plain (OpenSpec.upto fnDiagonalsSpec)) fnDiagonalsUptoCard

/-- THE SECOND FORM's CARD OF 'laws.FnDiagonalsCount'. -/
def fnDiagonalsCountUptoCard : Claim7 := { stood := { row := fnDiagonalsCountUptoRow, standIns := [], harness := (true, "05f72f6205dca9d33c47423fc0b6e69688e936d772d0ffdef33145661f1ab5bb"), looks := false }, kinds := [], alts := [], laidByText := true, laidKinds := [.data], laidTests := true, laidLooks := .later }
def FnDiagonalsCountUptoCardSaid : Prop := Claim7.holds Tryd.pinned (.plain (OpenSpec.upto fnDiagonalsCountSpec)) fnDiagonalsCountUptoCard

/-- THE SECOND FORM's CARD OF 'laws.FnExactPointName'. -/
def fnExactPointNameUptoCard : Claim7 := { stood := { row := fnExactPointNameUptoRow, standIns := [], harness := (true, "05f72f6205dca9d33c47423fc0b6e69688e936d772d0ffdef33145661f1ab5bb"), looks := false }, kinds := [], alts := [], laidByText := true, laidKinds := [.data, .data, .data], laidTests := true, laidLooks := .later }
def FnExactPointNameUptoCardSaid : Prop := Claim7.holds Tryd.pinned (.plain (OpenSpec.upto fnExactPointNameSpec)) fnExactPointNameUptoCard

/-- THE SECOND FORM's CARD OF 'laws.FnExactParsePoint'. -/
def fnExactParsePointUptoCard : Claim7 := { stood := { row := fnExactParsePointUptoRow, standIns := [], harness := (true, "05f72f6205dca9d33c47423fc0b6e69688e936d772d0ffdef33145661f1ab5bb"), looks := false }, kinds := [], alts := [], laidByText := true, laidKinds := [.data, .data, .data], laidTests := true, laidLooks := .later }
def FnExactParsePointUptoCardSaid : Prop := Claim7.holds Tryd.pinned (.plain (OpenSpec.upto fnExactParsePointSpec)) fnExactParsePointUptoCard

/-- THE SECOND FORM's CARD OF 'laws.FnPointName'. -/
def fnPointNameUptoCard : Claim7 := { stood := { row := fnPointNameUptoRow, standIns := [], harness := (true, "05f72f6205dca9d33c47423fc0b6e69688e936d772d0ffdef33145661f1ab5bb"), looks := false }, kinds := [], alts := [], laidByText := true, laidKinds := [.data, .data, .data], laidTests := true, laidLooks := .later }
def FnPointNameUptoCardSaid : Prop := Claim7.holds Tryd.pinned (.plain (OpenSpec.upto fnPointNameSpec)) fnPointNameUptoCard

/-- THE SECOND FORM's CARD OF 'laws.FnParsePoint'. -/
def fnParsePointUptoCard : Claim7 := { stood := { row := fnParsePointUptoRow, standIns := [], harness := (true, "05f72f6205dca9d33c47423fc0b6e69688e936d772d0ffdef33145661f1ab5bb"), looks := false }, kinds := [], alts := [], laidByText := true, laidKinds := [.data, .data, .data], laidTests := true, laidLooks := .later }
def FnParsePointUptoCardSaid : Prop := Claim7.holds Tryd.pinned (.plain (OpenSpec.upto fnParsePointSpec)) fnParsePointUptoCard

/-- THE SECOND FORM's CARD OF 'laws.FnValidPoint'. -/
def fnValidPointUptoCard : Claim7 := { stood := { row := fnValidPointUptoRow, standIns := [], harness := (true, "05f72f6205dca9d33c47423fc0b6e69688e936d772d0ffdef33145661f1ab5bb"), looks := false }, kinds := [], alts := [], laidByText := true, laidKinds := [.data, .data, .data], laidTests := true, laidLooks := .later }
def FnValidPointUptoCardSaid : Prop := Claim7.holds Tryd.pinned (.plain (OpenSpec.upto fnValidPointSpec)) fnValidPointUptoCard
end Rows
end Go.Proofs.YtcloolldnjhljaaDoor
