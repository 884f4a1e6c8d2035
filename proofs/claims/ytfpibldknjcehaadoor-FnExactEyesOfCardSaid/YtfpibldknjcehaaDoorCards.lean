/-
  DERIVED. GIVEN WITH THE SEED: THE CARDS: each row of YtfpibldknjcehaaDoorRows.lean that lists a variable, with what it lists TIED to the program's text (the seventh form; the later family's looks); each row that meets fmt, with fmt's text TOLD by the authors' own Lean function (tested against real Go, not proved from fmt's source: count such statements apart). THE CARD IS WHAT COUNTS. Prove the row's statement (the work); the ties are given (YtfpibldknjcehaaDoorTie.lean); close each card by the builder's one call (the guide's Derived/Test/ToyasCard.lean, 'card_holds'). Laid BY PROGRAM, IN A SANDBOX (cutbox-door.mjs). By AI agents, Wed Nov 11 2026. No macro, syntax, notation, axiom, sorry.
-/
import Derived.Test.YtfpibldknjcehaaDoorRows
import GoSem.ClaimSeven
namespace Go.Proofs.YtfpibldknjcehaaDoor
namespace Rows

/-- THE TIED CARD OF 'laws.FnExactIsEye'. -/
def fnExactIsEyeCard : Claim7 := { stood := { row := fnExactIsEyeRow, standIns := [], harness := (true, "7481720ccfbb49e4b479fb3a12b5912e20adfbd6359362f5c76ee633d4003e7c"), looks := false }, kinds := [], alts := [], laidByText := true, laidKinds := [.data], laidTests := true, laidLooks := .later }
def FnExactIsEyeCardSaid : Prop := Claim7.holds Tryd.pinned (.plain (OpenSpec.ofChange fnExactIsEyeSpec)) fnExactIsEyeCard

/-- THE TIED CARD OF 'laws.FnExactEyesOf'. -/
def fnExactEyesOfCard : Claim7 := { stood := { row := fnExactEyesOfRow, standIns := [], harness := (true, "7481720ccfbb49e4b479fb3a12b5912e20adfbd6359362f5c76ee633d4003e7c"), looks := false }, kinds := [], alts := [], laidByText := true, laidKinds := [.data], laidTests := true, laidLooks := .later }
def FnExactEyesOfCardSaid : Prop := Claim7.holds Tryd.pinned (.plain (OpenSpec.ofChange fnExactEyesOfSpec)) fnExactEyesOfCard

/-- THE SECOND FORM's CARD OF 'laws.FnExactIsEye'. -/
def fnExactIsEyeUptoCard : Claim7 := { stood := { row := fnExactIsEyeUptoRow, standIns := [], harness := (true, "7481720ccfbb49e4b479fb3a12b5912e20adfbd6359362f5c76ee633d4003e7c"), looks := false }, kinds := [], alts := [], laidByText := true, laidKinds := [.data], laidTests := true, laidLooks := .later }
def FnExactIsEyeUptoCardSaid : Prop := Claim7.holds Tryd.pinned (.plain (OpenSpec.upto fnExactIsEyeSpec)) fnExactIsEyeUptoCard

/-- THE SECOND FORM's CARD OF 'laws.FnExactEyesOf'. -/
def fnExactEyesOfUptoCard : Claim7 := { stood := { row := fnExactEyesOfUptoRow, standIns := [], harness := (true, "7481720ccfbb49e4b479fb3a12b5912e20adfbd6359362f5c76ee633d4003e7c"), looks := false }, kinds := [], alts := [], laidByText := true, laidKinds := [.data], laidTests := true, laidLooks := .later }
def FnExactEyesOfUptoCardSaid : Prop := Claim7.holds Tryd.pinned (.plain (OpenSpec.upto fnExactEyesOfSpec)) fnExactEyesOfUptoCard
end Rows
end Go.Proofs.YtfpibldknjcehaaDoor
