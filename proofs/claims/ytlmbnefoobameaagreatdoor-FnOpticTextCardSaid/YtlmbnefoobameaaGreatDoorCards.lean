/-
  DERIVED. GIVEN WITH THE SEED: THE CARDS: each row of YtlmbnefoobameaaGreatDoorRows.lean that lists a variable, with what it lists TIED to the program's text (the seventh form; the later family's looks); each row that meets fmt, with fmt's text TOLD by the authors' own Lean function (tested against real Go, not proved from fmt's source: count such statements apart). THE CARD IS WHAT COUNTS. Prove the row's statement (the work); the ties are given (YtlmbnefoobameaaGreatDoorTie.lean); close each card by the builder's one call (the guide's Derived/Test/ToyasCard.lean, 'card_holds'). Laid BY PROGRAM, IN A SANDBOX (cutbox-door.mjs). By AI agents, Wed Nov 11 2026. No macro, syntax, notation, axiom, sorry.
-/
import Derived.Test.YtlmbnefoobameaaGreatDoorRows
import GoSem.ClaimSeven
namespace Go.Proofs.YtlmbnefoobameaaGreatDoor
namespace Rows

/-- THE TIED CARD OF 'laws.FnOpticText'. -/
def fnOpticTextCard : Claim7 := { stood := { row := fnOpticTextRow, standIns := [], harness := (true, "a781502300692947a7f1bc4abf00093f8d7ee94ca199e3b645878fa207662c5b"), looks := true }, kinds := [], alts := [], laidByText := true, laidKinds := [.data, .data, .data, .sentinel, .sentinel], laidTests := true, laidLooks := .later }
def FnOpticTextCardSaid : Prop := Claim7.holds Tryz.pinned (.plain (OpenSpec.ofChange fnOpticTextSpec)) fnOpticTextCard

/-- THE SECOND FORM's CARD OF 'laws.FnOpticText'. -/
def fnOpticTextUptoCard : Claim7 := { stood := { row := fnOpticTextUptoRow, standIns := [], harness := (true, "a781502300692947a7f1bc4abf00093f8d7ee94ca199e3b645878fa207662c5b"), looks := true }, kinds := [], alts := [], laidByText := true, laidKinds := [.data, .data, .data, .sentinel, .sentinel], laidTests := true, laidLooks := .later }
def FnOpticTextUptoCardSaid : Prop := Claim7.holds Tryz.pinned (.plain (OpenSpec.upto fnOpticTextSpec)) fnOpticTextUptoCard
end Rows
end Go.Proofs.YtlmbnefoobameaaGreatDoor
