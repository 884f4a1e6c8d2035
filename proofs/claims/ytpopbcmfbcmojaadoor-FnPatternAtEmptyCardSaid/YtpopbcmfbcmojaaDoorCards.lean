/-
  DERIVED. GIVEN WITH THE SEED: THE CARDS: each row of YtpopbcmfbcmojaaDoorRows.lean that lists a variable, with what it lists TIED to the program's text (the seventh form; the later family's looks); each row that meets fmt, with fmt's text TOLD by the authors' own Lean function (tested against real Go, not proved from fmt's source: count such statements apart). THE CARD IS WHAT COUNTS. Prove the row's statement (the work); the ties are given (YtpopbcmfbcmojaaDoorTie.lean); close each card by the builder's one call (the guide's Derived/Test/ToyasCard.lean, 'card_holds'). Laid BY PROGRAM, IN A SANDBOX (cutbox-door.mjs). By AI agents, Wed Nov 11 2026. No macro, syntax, notation, axiom, sorry.
-/
import Derived.Test.YtpopbcmfbcmojaaDoorRows
import GoSem.ClaimSeven
namespace Go.Proofs.YtpopbcmfbcmojaaDoor
namespace Rows

/-- THE TIED CARD OF 'laws.FnPatternAtEmpty'. -/
def fnPatternAtEmptyCard : Claim7 := { stood := { row := fnPatternAtEmptyRow, standIns := [], harness := (true, "d096b37d2044803b5313cb0a880cbfdb63edefc6f56ddbb4a16992799cbf67d3"), looks := false }, kinds := [], alts := [], laidByText := true, laidKinds := [.data], laidTests := true, laidLooks := .later }
def FnPatternAtEmptyCardSaid : Prop := Claim7.holds Tryd.pinned (.plain (OpenSpec.ofChange fnPatternAtEmptySpec)) fnPatternAtEmptyCard

/-- THE SECOND FORM's CARD OF 'laws.FnPatternAtEmpty'. -/
def fnPatternAtEmptyUptoCard : Claim7 := { stood := { row := fnPatternAtEmptyUptoRow, standIns := [], harness := (true, "d096b37d2044803b5313cb0a880cbfdb63edefc6f56ddbb4a16992799cbf67d3"), looks := false }, kinds := [], alts := [], laidByText := true, laidKinds := [.data], laidTests := true, laidLooks := .later }
def FnPatternAtEmptyUptoCardSaid : Prop := Claim7.holds Tryd.pinned (.plain (OpenSpec.upto fnPatternAtEmptySpec)) fnPatternAtEmptyUptoCard
end Rows
end Go.Proofs.YtpopbcmfbcmojaaDoor
