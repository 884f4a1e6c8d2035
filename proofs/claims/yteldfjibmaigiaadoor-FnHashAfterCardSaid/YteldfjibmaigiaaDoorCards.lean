/-
  DERIVED. GIVEN WITH THE SEED: THE CARDS: each row of YteldfjibmaigiaaDoorRows.lean that lists a variable, with what it lists TIED to the program's text (the seventh form; the later family's looks); each row that meets fmt, with fmt's text TOLD by the authors' own Lean function (tested against real Go, not proved from fmt's source: count such statements apart). THE CARD IS WHAT COUNTS. Prove the row's statement (the work); the ties are given (YteldfjibmaigiaaDoorTie.lean); close each card by the builder's one call (the guide's Derived/Test/ToyasCard.lean, 'card_holds'). Laid BY PROGRAM, IN A SANDBOX (cutbox-door.mjs). By AI agents, Wed Nov 11 2026. No macro, syntax, notation, axiom, sorry.
-/
import Derived.Test.YteldfjibmaigiaaDoorRows
import GoSem.ClaimSeven
namespace Go.Proofs.YteldfjibmaigiaaDoor
namespace Rows

/-- THE TIED CARD OF 'laws.FnPlayStoneLiberties'. -/
def fnPlayStoneLibertiesCard : Claim7 := { stood := { row := fnPlayStoneLibertiesRow, standIns := [], harness := (true, "dfb7bfd0c0c4979b2ed51ccd7139e629adca4b5b84ef867fffee1487de58d4fb"), looks := false }, kinds := [], alts := [], laidByText := true, laidKinds := [.data, .sentinel, .sentinel], laidTests := true, laidLooks := .later }
def FnPlayStoneLibertiesCardSaid : Prop := Claim7.holds Tryd.pinned (.plain (OpenSpec.ofChange fnPlayStoneLibertiesSpec)) fnPlayStoneLibertiesCard

/-- THE TIED CARD OF 'laws.FnExactHashAfter'. -/
def fnExactHashAfterCard : Claim7 := { stood := { row := fnExactHashAfterRow, standIns := [], harness := (true, "dfb7bfd0c0c4979b2ed51ccd7139e629adca4b5b84ef867fffee1487de58d4fb"), looks := false }, kinds := [], alts := [], laidByText := true, laidKinds := [.data, .sentinel, .sentinel], laidTests := true, laidLooks := .later }
def FnExactHashAfterCardSaid : Prop := Claim7.holds Tryd.pinned (.plain (OpenSpec.ofChange fnExactHashAfterSpec)) fnExactHashAfterCard

/-- THE TIED CARD OF 'laws.FnHashAfter'. -/
def fnHashAfterCard : Claim7 := { stood := { row := fnHashAfterRow, standIns := [], harness := (true, "dfb7bfd0c0c4979b2ed51ccd7139e629adca4b5b84ef867fffee1487de58d4fb"), looks := false }, kinds := [], alts := [], laidByText := true, laidKinds := [.data, .sentinel, .sentinel], laidTests := true, laidLooks := .later }
def FnHashAfterCardSaid : Prop := Claim7.holds Tryd.pinned (.plain (OpenSpec.ofChange fnHashAfterSpec)) fnHashAfterCard

/-- THE SECOND FORM's CARD OF 'laws.FnPlayStoneLiberties'. -/
def fnPlayStoneLibertiesUptoCard : Claim7 := { stood := { row := fnPlayStoneLibertiesUptoRow, standIns := [], harness := (true, "dfb7bfd0c0c4979b2ed51ccd7139e629adca4b5b84ef867fffee1487de58d4fb"), looks := false }, kinds := [], alts := [], laidByText := true, laidKinds := [.data, .sentinel, .sentinel], laidTests := true, laidLooks := .later }
def FnPlayStoneLibertiesUptoCardSaid : Prop := Claim7.holds Tryd.pinned (.plain (OpenSpec.upto fnPlayStoneLibertiesSpec)) fnPlayStoneLibertiesUptoCard

/-- THE SECOND FORM's CARD OF 'laws.FnExactHashAfter'. -/
def fnExactHashAfterUptoCard : Claim7 := { stood := { row := fnExactHashAfterUptoRow, standIns := [], harness := (true, "dfb7bfd0c0c4979b2ed51ccd7139e629adca4b5b84ef867fffee1487de58d4fb"), looks := false }, kinds := [], alts := [], laidByText := true, laidKinds := [.data, .sentinel, .sentinel], laidTests := true, laidLooks := .later }
def FnExactHashAfterUptoCardSaid : Prop := Claim7.holds Tryd.pinned (.plain (OpenSpec.upto fnExactHashAfterSpec)) fnExactHashAfterUptoCard

/-- THE SECOND FORM's CARD OF 'laws.FnHashAfter'. -/
def fnHashAfterUptoCard : Claim7 := { stood := { row := fnHashAfterUptoRow, standIns := [], harness := (true, "dfb7bfd0c0c4979b2ed51ccd7139e629adca4b5b84ef867fffee1487de58d4fb"), looks := false }, kinds := [], alts := [], laidByText := true, laidKinds := [.data, .sentinel, .sentinel], laidTests := true, laidLooks := .later }
def FnHashAfterUptoCardSaid : Prop := Claim7.holds Tryd.pinned (.plain (OpenSpec.upto fnHashAfterSpec)) fnHashAfterUptoCard
end Rows
end Go.Proofs.YteldfjibmaigiaaDoor
