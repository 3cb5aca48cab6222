/-
  DERIVED. GIVEN WITH THE SEED: THE CARDS: each row of YthdfidhijmcbdaaGreatDoorRows.lean that lists a variable, with what it lists TIED to the program's text (the seventh form; the later family's looks); each row that meets fmt, with fmt's text TOLD by the authors' own Lean function (tested against real Go, not proved from fmt's source: count such statements apart). THE CARD IS WHAT COUNTS. Prove the row's statement (the work); the ties are given (YthdfidhijmcbdaaGreatDoorTie.lean); close each card by the builder's one call (the guide's Derived/Test/ToyasCard.lean, 'card_holds'). Laid BY PROGRAM, IN A SANDBOX (cutbox-door.mjs). By AI agents, Wed Nov 11 2026. No macro, syntax, notation, axiom, sorry.
-/
import Derived.Test.YthdfidhijmcbdaaGreatDoorRows
import GoSem.ClaimSeven
namespace Go.Proofs.YthdfidhijmcbdaaGreatDoor
namespace Rows

/-- THE TIED CARD OF 'laws.FnTyped'. -/
def fnTypedCard : Claim7 := { stood := { row := fnTypedRow, standIns := [], harness := (true, "949bc7d001b7af98f2bad1e6fa1ea4847038ae50b4108614f213e3c674ba3c81"), looks := true }, kinds := [], alts := [], laidByText := true, laidKinds := [.data, .sentinel], laidTests := true, laidLooks := .later }
def FnTypedCardSaid : Prop := Claim7.holds Tryz.pinned (.plain (OpenSpec.ofChange fnTypedSpec)) fnTypedCard

/-- THE TIED CARD OF 'laws.FnExactOpticType'. -/
def fnExactOpticTypeCard : Claim7 := { stood := { row := fnExactOpticTypeRow, standIns := [], harness := (true, "949bc7d001b7af98f2bad1e6fa1ea4847038ae50b4108614f213e3c674ba3c81"), looks := true }, kinds := [], alts := [], laidByText := true, laidKinds := [.data, .sentinel], laidTests := true, laidLooks := .later }
def FnExactOpticTypeCardSaid : Prop := Claim7.holds Tryz.pinned (.plain (OpenSpec.ofChange fnExactOpticTypeSpec)) fnExactOpticTypeCard

/-- THE TIED CARD OF 'laws.FnExactIsTyped'. -/
def fnExactIsTypedCard : Claim7 := { stood := { row := fnExactIsTypedRow, standIns := [], harness := (true, "949bc7d001b7af98f2bad1e6fa1ea4847038ae50b4108614f213e3c674ba3c81"), looks := true }, kinds := [], alts := [], laidByText := true, laidKinds := [.data, .sentinel], laidTests := true, laidLooks := .later }
def FnExactIsTypedCardSaid : Prop := Claim7.holds Tryz.pinned (.plain (OpenSpec.ofChange fnExactIsTypedSpec)) fnExactIsTypedCard

/-- THE SECOND FORM's CARD OF 'laws.FnTyped'. -/
def fnTypedUptoCard : Claim7 := { stood := { row := fnTypedUptoRow, standIns := [], harness := (true, "949bc7d001b7af98f2bad1e6fa1ea4847038ae50b4108614f213e3c674ba3c81"), looks := true }, kinds := [], alts := [], laidByText := true, laidKinds := [.data, .sentinel], laidTests := true, laidLooks := .later }
def FnTypedUptoCardSaid : Prop := Claim7.holds Tryz.pinned (.plain (OpenSpec.upto fnTypedSpec)) fnTypedUptoCard

/-- THE SECOND FORM's CARD OF 'laws.FnExactOpticType'. -/
def fnExactOpticTypeUptoCard : Claim7 := { stood := { row := fnExactOpticTypeUptoRow, standIns := [], harness := (true, "949bc7d001b7af98f2bad1e6fa1ea4847038ae50b4108614f213e3c674ba3c81"), looks := true }, kinds := [], alts := [], laidByText := true, laidKinds := [.data, .sentinel], laidTests := true, laidLooks := .later }
def FnExactOpticTypeUptoCardSaid : Prop := Claim7.holds Tryz.pinned (.plain (OpenSpec.upto fnExactOpticTypeSpec)) fnExactOpticTypeUptoCard

/-- THE SECOND FORM's CARD OF 'laws.FnExactIsTyped'. -/
def fnExactIsTypedUptoCard : Claim7 := { stood := { row := fnExactIsTypedUptoRow, standIns := [], harness := (true, "949bc7d001b7af98f2bad1e6fa1ea4847038ae50b4108614f213e3c674ba3c81"), looks := true }, kinds := [], alts := [], laidByText := true, laidKinds := [.data, .sentinel], laidTests := true, laidLooks := .later }
def FnExactIsTypedUptoCardSaid : Prop := Claim7.holds Tryz.pinned (.plain (OpenSpec.upto fnExactIsTypedSpec)) fnExactIsTypedUptoCard
end Rows
end Go.Proofs.YthdfidhijmcbdaaGreatDoor
