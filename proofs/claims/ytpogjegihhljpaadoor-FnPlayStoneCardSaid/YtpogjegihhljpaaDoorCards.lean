/-
  DERIVED. GIVEN WITH THE SEED: THE CARDS: each row of YtpogjegihhljpaaDoorRows.lean that lists a variable, with what it lists TIED to the program's text (the seventh form; the later family's looks); each row that meets fmt, with fmt's text TOLD by the authors' own Lean function (tested against real Go, not proved from fmt's source: count such statements apart). THE CARD IS WHAT COUNTS. Prove the row's statement (the work); the ties are given (YtpogjegihhljpaaDoorTie.lean); close each card by the builder's one call (the guide's Derived/Test/ToyasCard.lean, 'card_holds'). Laid BY PROGRAM, IN A SANDBOX (cutbox-door.mjs). By AI agents, Wed Nov 11 2026. No macro, syntax, notation, axiom, sorry.
-/
import Derived.Test.YtpogjegihhljpaaDoorRows
import GoSem.ClaimSeven
namespace Go.Proofs.YtpogjegihhljpaaDoor
namespace Rows

/-- THE TIED CARD OF 'laws.FnPlayStone'. -/
def fnPlayStoneCard : Claim7 := { stood := { row := fnPlayStoneRow, standIns := [], harness := (true, "b9e71033c89615ad4195f1710a14c31cb2d621b2ae4eb2a837f3acc3274b1176"), looks := false }, kinds := [], alts := [], laidByText := true, laidKinds := [.data, .sentinel, .sentinel], laidTests := true, laidLooks := .later }
def FnPlayStoneCardSaid : Prop := Claim7.holds Tryd.pinned (.plain (OpenSpec.ofChange fnPlayStoneSpec)) fnPlayStoneCard

/-- THE TIED CARD OF 'laws.FnPlayStoneLiberties'. -/
def fnPlayStoneLibertiesCard : Claim7 := { stood := { row := fnPlayStoneLibertiesRow, standIns := [], harness := (true, "b9e71033c89615ad4195f1710a14c31cb2d621b2ae4eb2a837f3acc3274b1176"), looks := false }, kinds := [], alts := [], laidByText := true, laidKinds := [.data, .sentinel, .sentinel], laidTests := true, laidLooks := .later }
def FnPlayStoneLibertiesCardSaid : Prop := Claim7.holds Tryd.pinned (.plain (OpenSpec.ofChange fnPlayStoneLibertiesSpec)) fnPlayStoneLibertiesCard

/-- THE TIED CARD OF 'laws.FnPossiblePoints'. -/
def fnPossiblePointsCard : Claim7 := { stood := { row := fnPossiblePointsRow, standIns := [], harness := (true, "b9e71033c89615ad4195f1710a14c31cb2d621b2ae4eb2a837f3acc3274b1176"), looks := false }, kinds := [], alts := [], laidByText := true, laidKinds := [.data, .sentinel, .sentinel], laidTests := true, laidLooks := .later }
def FnPossiblePointsCardSaid : Prop := Claim7.holds Tryd.pinned (.plain (OpenSpec.ofChange fnPossiblePointsSpec)) fnPossiblePointsCard

/-- THE TIED CARD OF 'laws.FnCapturingPoints'. -/
def fnCapturingPointsCard : Claim7 := { stood := { row := fnCapturingPointsRow, standIns := [], harness := (true, "b9e71033c89615ad4195f1710a14c31cb2d621b2ae4eb2a837f3acc3274b1176"), looks := false }, kinds := [], alts := [], laidByText := true, laidKinds := [.data, .sentinel, .sentinel], laidTests := true, laidLooks := .later }
def FnCapturingPointsCardSaid : Prop := Claim7.holds Tryd.pinned (.plain (OpenSpec.ofChange fnCapturingPointsSpec)) fnCapturingPointsCard

/-- THE TIED CARD OF 'laws.FnEyesOf'. -/
def fnEyesOfCard : Claim7 := { stood := { row := fnEyesOfRow, standIns := [], harness := (true, "b9e71033c89615ad4195f1710a14c31cb2d621b2ae4eb2a837f3acc3274b1176"), looks := false }, kinds := [], alts := [], laidByText := true, laidKinds := [.data], laidTests := true, laidLooks := .later }
def FnEyesOfCardSaid : Prop := Claim7.holds Tryd.pinned (.plain (OpenSpec.ofChange fnEyesOfSpec)) fnEyesOfCard

/-- THE TIED CARD OF 'laws.FnPlayStoneCount'. -/
def fnPlayStoneCountCard : Claim7 := { stood := { row := fnPlayStoneCountRow, standIns := [], harness := (true, "b9e71033c89615ad4195f1710a14c31cb2d621b2ae4eb2a837f3acc3274b1176"), looks := false }, kinds := [], alts := [], laidByText := true, laidKinds := [.data, .sentinel, .sentinel], laidTests := true, laidLooks := .later }
def FnPlayStoneCountCardSaid : Prop := Claim7.holds Tryd.pinned (.plain (OpenSpec.ofChange fnPlayStoneCountSpec)) fnPlayStoneCountCard

/-- THE TIED CARD OF 'laws.FnExactPlayStone'. -/
def fnExactPlayStoneCard : Claim7 := { stood := { row := fnExactPlayStoneRow, standIns := [], harness := (true, "b9e71033c89615ad4195f1710a14c31cb2d621b2ae4eb2a837f3acc3274b1176"), looks := false }, kinds := [], alts := [], laidByText := true, laidKinds := [.data, .sentinel, .sentinel], laidTests := true, laidLooks := .later }
def FnExactPlayStoneCardSaid : Prop := Claim7.holds Tryd.pinned (.plain (OpenSpec.ofChange fnExactPlayStoneSpec)) fnExactPlayStoneCard

/-- THE TIED CARD OF 'laws.FnExactPossiblePoints'. -/
def fnExactPossiblePointsCard : Claim7 := { stood := { row := fnExactPossiblePointsRow, standIns := [], harness := (true, "b9e71033c89615ad4195f1710a14c31cb2d621b2ae4eb2a837f3acc3274b1176"), looks := false }, kinds := [], alts := [], laidByText := true, laidKinds := [.data, .sentinel, .sentinel], laidTests := true, laidLooks := .later }
def FnExactPossiblePointsCardSaid : Prop := Claim7.holds Tryd.pinned (.plain (OpenSpec.ofChange fnExactPossiblePointsSpec)) fnExactPossiblePointsCard

/-- THE TIED CARD OF 'laws.FnExactCapturingPoints'. -/
def fnExactCapturingPointsCard : Claim7 := { stood := { row := fnExactCapturingPointsRow, standIns := [], harness := (true, "b9e71033c89615ad4195f1710a14c31cb2d621b2ae4eb2a837f3acc3274b1176"), looks := false }, kinds := [], alts := [], laidByText := true, laidKinds := [.data, .sentinel, .sentinel], laidTests := true, laidLooks := .later }
def FnExactCapturingPointsCardSaid : Prop := Claim7.holds Tryd.pinned (.plain (OpenSpec.ofChange fnExactCapturingPointsSpec)) fnExactCapturingPointsCard

/-- THE SECOND FORM's CARD OF 'laws.FnPlayStone'. -/
def fnPlayStoneUptoCard : Claim7 := { stood := { row := fnPlayStoneUptoRow, standIns := [], harness := (true, "b9e71033c89615ad4195f1710a14c31cb2d621b2ae4eb2a837f3acc3274b1176"), looks := false }, kinds := [], alts := [], laidByText := true, laidKinds := [.data, .sentinel, .sentinel], laidTests := true, laidLooks := .later }
def FnPlayStoneUptoCardSaid : Prop := Claim7.holds Tryd.pinned (.plain (OpenSpec.upto fnPlayStoneSpec)) fnPlayStoneUptoCard

/-- THE SECOND FORM's CARD OF 'laws.FnPlayStoneLiberties'. -/
def fnPlayStoneLibertiesUptoCard : Claim7 := { stood := { row := fnPlayStoneLibertiesUptoRow, standIns := [], harness := (true, "b9e71033c89615ad4195f1710a14c31cb2d621b2ae4eb2a837f3acc3274b1176"), looks := false }, kinds := [], alts := [], laidByText := true, laidKinds := [.data, .sentinel, .sentinel], laidTests := true, laidLooks := .later }
def FnPlayStoneLibertiesUptoCardSaid : Prop := Claim7.holds Tryd.pinned (.plain (OpenSpec.upto fnPlayStoneLibertiesSpec)) fnPlayStoneLibertiesUptoCard

/-- THE SECOND FORM's CARD OF 'laws.FnPossiblePoints'. -/
def fnPossiblePointsUptoCard : Claim7 := { stood := { row := fnPossiblePointsUptoRow, standIns := [], harness := (true, "b9e71033c89615ad4195f1710a14c31cb2d621b2ae4eb2a837f3acc3274b1176"), looks := false }, kinds := [], alts := [], laidByText := true, laidKinds := [.data, .sentinel, .sentinel], laidTests := true, laidLooks := .later }
def FnPossiblePointsUptoCardSaid : Prop := Claim7.holds Tryd.pinned (.plain (OpenSpec.upto fnPossiblePointsSpec)) fnPossiblePointsUptoCard

/-- THE SECOND FORM's CARD OF 'laws.FnCapturingPoints'. -/
def fnCapturingPointsUptoCard : Claim7 := { stood := { row := fnCapturingPointsUptoRow, standIns := [], harness := (true, "b9e71033c89615ad4195f1710a14c31cb2d621b2ae4eb2a837f3acc3274b1176"), looks := false }, kinds := [], alts := [], laidByText := true, laidKinds := [.data, .sentinel, .sentinel], laidTests := true, laidLooks := .later }
def FnCapturingPointsUptoCardSaid : Prop := Claim7.holds Tryd.pinned (.plain (OpenSpec.upto fnCapturingPointsSpec)) fnCapturingPointsUptoCard

/-- THE SECOND FORM's CARD OF 'laws.FnEyesOf'. -/
def fnEyesOfUptoCard : Claim7 := { stood := { row := fnEyesOfUptoRow, standIns := [], harness := (true, "b9e71033c89615ad4195f1710a14c31cb2d621b2ae4eb2a837f3acc3274b1176"), looks := false }, kinds := [], alts := [], laidByText := true, laidKinds := [.data], laidTests := true, laidLooks := .later }
def FnEyesOfUptoCardSaid : Prop := Claim7.holds Tryd.pinned (.plain (OpenSpec.upto fnEyesOfSpec)) fnEyesOfUptoCard

/-- THE SECOND FORM's CARD OF 'laws.FnPlayStoneCount'. -/
def fnPlayStoneCountUptoCard : Claim7 := { stood := { row := fnPlayStoneCountUptoRow, standIns := [], harness := (true, "b9e71033c89615ad4195f1710a14c31cb2d621b2ae4eb2a837f3acc3274b1176"), looks := false }, kinds := [], alts := [], laidByText := true, laidKinds := [.data, .sentinel, .sentinel], laidTests := true, laidLooks := .later }
def FnPlayStoneCountUptoCardSaid : Prop := Claim7.holds Tryd.pinned (.plain (OpenSpec.upto fnPlayStoneCountSpec)) fnPlayStoneCountUptoCard

/-- THE SECOND FORM's CARD OF 'laws.FnExactPlayStone'. -/
def fnExactPlayStoneUptoCard : Claim7 := { stood := { row := fnExactPlayStoneUptoRow, standIns := [], harness := (true, "b9e71033c89615ad4195f1710a14c31cb2d621b2ae4eb2a837f3acc3274b1176"), looks := false }, kinds := [], alts := [], laidByText := true, laidKinds := [.data, .sentinel, .sentinel], laidTests := true, laidLooks := .later }
def FnExactPlayStoneUptoCardSaid : Prop := Claim7.holds Tryd.pinned (.plain (OpenSpec.upto fnExactPlayStoneSpec)) fnExactPlayStoneUptoCard

/-- THE SECOND FORM's CARD OF 'laws.FnExactPossiblePoints'. -/
def fnExactPossiblePointsUptoCard : Claim7 := { stood := { row := fnExactPossiblePointsUptoRow, standIns := [], harness := (true, "b9e71033c89615ad4195f1710a14c31cb2d621b2ae4eb2a837f3acc3274b1176"), looks := false }, kinds := [], alts := [], laidByText := true, laidKinds := [.data, .sentinel, .sentinel], laidTests := true, laidLooks := .later }
def FnExactPossiblePointsUptoCardSaid : Prop := Claim7.holds Tryd.pinned (.plain (OpenSpec.upto fnExactPossiblePointsSpec)) fnExactPossiblePointsUptoCard

/-- THE SECOND FORM's CARD OF 'laws.FnExactCapturingPoints'. -/
def fnExactCapturingPointsUptoCard : Claim7 := { stood := { row := fnExactCapturingPointsUptoRow, standIns := [], harness := (true, "b9e71033c89615ad4195f1710a14c31cb2d621b2ae4eb2a837f3acc3274b1176"), looks := false }, kinds := [], alts := [], laidByText := true, laidKinds := [.data, .sentinel, .sentinel], laidTests := true, laidLooks := .later }
def FnExactCapturingPointsUptoCardSaid : Prop := Claim7.holds Tryd.pinned (.plain (OpenSpec.upto fnExactCapturingPointsSpec)) fnExactCapturingPointsUptoCard
end Rows
end Go.Proofs.YtpogjegihhljpaaDoor
