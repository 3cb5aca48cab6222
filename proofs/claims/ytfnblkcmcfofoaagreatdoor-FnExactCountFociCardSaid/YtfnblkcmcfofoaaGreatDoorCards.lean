/-
  DERIVED. GIVEN WITH THE SEED: THE CARDS: each row of YtfnblkcmcfofoaaGreatDoorRows.lean that lists a variable, with what it lists TIED to the program's text (the seventh form; the later family's looks); each row that meets fmt, with fmt's text TOLD by the authors' own Lean function (tested against real Go, not proved from fmt's source: count such statements apart). THE CARD IS WHAT COUNTS. Prove the row's statement (the work); the ties are given (YtfnblkcmcfofoaaGreatDoorTie.lean); close each card by the builder's one call (the guide's Derived/Test/ToyasCard.lean, 'card_holds'). Laid BY PROGRAM, IN A SANDBOX (cutbox-door.mjs). By AI agents, Wed Nov 11 2026. No macro, syntax, notation, axiom, sorry.
-/
import Derived.Test.YtfnblkcmcfofoaaGreatDoorRows
import GoSem.ClaimSeven
namespace Go.Proofs.YtfnblkcmcfofoaaGreatDoor
namespace Rows

/-- THE TIED CARD OF 'laws.FnTyped'. -/
def fnTypedCard : Claim7 := { stood := { row := fnTypedRow, standIns := [], harness := (true, "017c05aeaf996aae7ac99f345a54b641c084f1159d6736dbbddfe86c8c50ed95"), looks := true }, kinds := [], alts := [], laidByText := true, laidKinds := [.data, .sentinel], laidTests := true, laidLooks := .later }
def FnTypedCardSaid : Prop := Claim7.holds Tryz.pinned (.plain (OpenSpec.ofChange fnTypedSpec)) fnTypedCard

/-- THE TIED CARD OF 'laws.FnFoci'. -/
def fnFociCard : Claim7 := { stood := { row := fnFociRow, standIns := [], harness := (true, "017c05aeaf996aae7ac99f345a54b641c084f1159d6736dbbddfe86c8c50ed95"), looks := true }, kinds := [], alts := [], laidByText := true, laidKinds := [.data, .data, .sentinel], laidTests := true, laidLooks := .later }
def FnFociCardSaid : Prop := Claim7.holds Tryz.pinned (.plain (OpenSpec.ofChange fnFociSpec)) fnFociCard

/-- THE TIED CARD OF 'laws.FnExactFoci'. -/
def fnExactFociCard : Claim7 := { stood := { row := fnExactFociRow, standIns := [], harness := (true, "017c05aeaf996aae7ac99f345a54b641c084f1159d6736dbbddfe86c8c50ed95"), looks := true }, kinds := [], alts := [], laidByText := true, laidKinds := [.data, .data, .sentinel], laidTests := true, laidLooks := .later }
def FnExactFociCardSaid : Prop := Claim7.holds Tryz.pinned (.plain (OpenSpec.ofChange fnExactFociSpec)) fnExactFociCard

/-- THE TIED CARD OF 'laws.FnExactCountFoci'. -/
def fnExactCountFociCard : Claim7 := { stood := { row := fnExactCountFociRow, standIns := [], harness := (true, "017c05aeaf996aae7ac99f345a54b641c084f1159d6736dbbddfe86c8c50ed95"), looks := true }, kinds := [], alts := [], laidByText := true, laidKinds := [.data, .data, .sentinel], laidTests := true, laidLooks := .later }
def FnExactCountFociCardSaid : Prop := Claim7.holds Tryz.pinned (.plain (OpenSpec.ofChange fnExactCountFociSpec)) fnExactCountFociCard

/-- THE TIED CARD OF 'laws.FnExactFirstFocus'. -/
def fnExactFirstFocusCard : Claim7 := { stood := { row := fnExactFirstFocusRow, standIns := [], harness := (true, "017c05aeaf996aae7ac99f345a54b641c084f1159d6736dbbddfe86c8c50ed95"), looks := true }, kinds := [], alts := [], laidByText := true, laidKinds := [.data, .data, .sentinel], laidTests := true, laidLooks := .later }
def FnExactFirstFocusCardSaid : Prop := Claim7.holds Tryz.pinned (.plain (OpenSpec.ofChange fnExactFirstFocusSpec)) fnExactFirstFocusCard

/-- THE SECOND FORM's CARD OF 'laws.FnTyped'. -/
def fnTypedUptoCard : Claim7 := { stood := { row := fnTypedUptoRow, standIns := [], harness := (true, "017c05aeaf996aae7ac99f345a54b641c084f1159d6736dbbddfe86c8c50ed95"), looks := true }, kinds := [], alts := [], laidByText := true, laidKinds := [.data, .sentinel], laidTests := true, laidLooks := .later }
def FnTypedUptoCardSaid : Prop := Claim7.holds Tryz.pinned (.plain (OpenSpec.upto fnTypedSpec)) fnTypedUptoCard

/-- THE SECOND FORM's CARD OF 'laws.FnFoci'. -/
def fnFociUptoCard : Claim7 := { stood := { row := fnFociUptoRow, standIns := [], harness := (true, "017c05aeaf996aae7ac99f345a54b641c084f1159d6736dbbddfe86c8c50ed95"), looks := true }, kinds := [], alts := [], laidByText := true, laidKinds := [.data, .data, .sentinel], laidTests := true, laidLooks := .later }
def FnFociUptoCardSaid : Prop := Claim7.holds Tryz.pinned (.plain (OpenSpec.upto fnFociSpec)) fnFociUptoCard

/-- THE SECOND FORM's CARD OF 'laws.FnExactFoci'. -/
def fnExactFociUptoCard : Claim7 := { stood := { row := fnExactFociUptoRow, standIns := [], harness := (true, "017c05aeaf996aae7ac99f345a54b641c084f1159d6736dbbddfe86c8c50ed95"), looks := true }, kinds := [], alts := [], laidByText := true, laidKinds := [.data, .data, .sentinel], laidTests := true, laidLooks := .later }
def FnExactFociUptoCardSaid : Prop := Claim7.holds Tryz.pinned (.plain (OpenSpec.upto fnExactFociSpec)) fnExactFociUptoCard

/-- THE SECOND FORM's CARD OF 'laws.FnExactCountFoci'. -/
def fnExactCountFociUptoCard : Claim7 := { stood := { row := fnExactCountFociUptoRow, standIns := [], harness := (true, "017c05aeaf996aae7ac99f345a54b641c084f1159d6736dbbddfe86c8c50ed95"), looks := true }, kinds := [], alts := [], laidByText := true, laidKinds := [.data, .data, .sentinel], laidTests := true, laidLooks := .later }
def FnExactCountFociUptoCardSaid : Prop := Claim7.holds Tryz.pinned (.plain (OpenSpec.upto fnExactCountFociSpec)) fnExactCountFociUptoCard

/-- THE SECOND FORM's CARD OF 'laws.FnExactFirstFocus'. -/
def fnExactFirstFocusUptoCard : Claim7 := { stood := { row := fnExactFirstFocusUptoRow, standIns := [], harness := (true, "017c05aeaf996aae7ac99f345a54b641c084f1159d6736dbbddfe86c8c50ed95"), looks := true }, kinds := [], alts := [], laidByText := true, laidKinds := [.data, .data, .sentinel], laidTests := true, laidLooks := .later }
def FnExactFirstFocusUptoCardSaid : Prop := Claim7.holds Tryz.pinned (.plain (OpenSpec.upto fnExactFirstFocusSpec)) fnExactFirstFocusUptoCard
end Rows
end Go.Proofs.YtfnblkcmcfofoaaGreatDoor
