/-
  DERIVED. GIVEN WITH THE SEED: THE CARDS: each row of YtakicpcfghejiaaDoorRows.lean that lists a variable, with what it lists TIED to the program's text (the seventh form; the later family's looks); each row that meets fmt, with fmt's text TOLD by the authors' own Lean function (tested against real Go, not proved from fmt's source: count such statements apart). THE CARD IS WHAT COUNTS. Prove the row's statement (the work); the ties are given (YtakicpcfghejiaaDoorTie.lean); close each card by the builder's one call (the guide's Derived/Test/ToyasCard.lean, 'card_holds'). Laid BY PROGRAM, IN A SANDBOX (cutbox-door.mjs). By AI agents, Wed Nov 11 2026. No macro, syntax, notation, axiom, sorry.
-/
import Derived.Test.YtakicpcfghejiaaDoorRows
import GoSem.ClaimSeven
namespace Go.Proofs.YtakicpcfghejiaaDoor
namespace Rows

/-- THE TIED CARD OF 'laws.FnKinds'. -/
def fnKindsCard : Claim7 := { stood := { row := fnKindsRow, standIns := [], harness := (true, "119b89295734f5e9669d8cb3cec25337b5e53b3849ea53c7172c889e3f3282c2"), looks := false }, kinds := [], alts := [], laidByText := true, laidKinds := [.data], laidTests := true, laidLooks := .later }
def FnKindsCardSaid : Prop := Claim7.holds Tryd.pinned (.plain (OpenSpec.ofChange fnKindsSpec)) fnKindsCard

/-- THE TIED CARD OF 'laws.FnExactIsKind'. -/
def fnExactIsKindCard : Claim7 := { stood := { row := fnExactIsKindRow, standIns := [], harness := (true, "119b89295734f5e9669d8cb3cec25337b5e53b3849ea53c7172c889e3f3282c2"), looks := false }, kinds := [], alts := [], laidByText := true, laidKinds := [.data], laidTests := true, laidLooks := .later }
def FnExactIsKindCardSaid : Prop := Claim7.holds Tryd.pinned (.plain (OpenSpec.ofChange fnExactIsKindSpec)) fnExactIsKindCard

/-- THE TIED CARD OF 'laws.FnExactIsWithin'. -/
def fnExactIsWithinCard : Claim7 := { stood := { row := fnExactIsWithinRow, standIns := [], harness := (true, "119b89295734f5e9669d8cb3cec25337b5e53b3849ea53c7172c889e3f3282c2"), looks := false }, kinds := [], alts := [], laidByText := true, laidKinds := [.data], laidTests := true, laidLooks := .later }
def FnExactIsWithinCardSaid : Prop := Claim7.holds Tryd.pinned (.plain (OpenSpec.ofChange fnExactIsWithinSpec)) fnExactIsWithinCard

/-- THE TIED CARD OF 'laws.FnExactJoinKinds'. -/
def fnExactJoinKindsCard : Claim7 := { stood := { row := fnExactJoinKindsRow, standIns := [], harness := (true, "119b89295734f5e9669d8cb3cec25337b5e53b3849ea53c7172c889e3f3282c2"), looks := false }, kinds := [], alts := [], laidByText := true, laidKinds := [.data], laidTests := true, laidLooks := .later }
def FnExactJoinKindsCardSaid : Prop := Claim7.holds Tryd.pinned (.plain (OpenSpec.ofChange fnExactJoinKindsSpec)) fnExactJoinKindsCard

/-- THE SECOND FORM's CARD OF 'laws.FnKinds'. -/
def fnKindsUptoCard : Claim7 := { stood := { row := fnKindsUptoRow, standIns := [], harness := (true, "119b89295734f5e9669d8cb3cec25337b5e53b3849ea53c7172c889e3f3282c2"), looks := false }, kinds := [], alts := [], laidByText := true, laidKinds := [.data], laidTests := true, laidLooks := .later }
def FnKindsUptoCardSaid : Prop := Claim7.holds Tryd.pinned (.plain (OpenSpec.upto fnKindsSpec)) fnKindsUptoCard

/-- THE SECOND FORM's CARD OF 'laws.FnExactIsKind'. -/
def fnExactIsKindUptoCard : Claim7 := { stood := { row := fnExactIsKindUptoRow, standIns := [], harness := (true, "119b89295734f5e9669d8cb3cec25337b5e53b3849ea53c7172c889e3f3282c2"), looks := false }, kinds := [], alts := [], laidByText := true, laidKinds := [.data], laidTests := true, laidLooks := .later }
def FnExactIsKindUptoCardSaid : Prop := Claim7.holds Tryd.pinned (.plain (OpenSpec.upto fnExactIsKindSpec)) fnExactIsKindUptoCard

/-- THE SECOND FORM's CARD OF 'laws.FnExactIsWithin'. -/
def fnExactIsWithinUptoCard : Claim7 := { stood := { row := fnExactIsWithinUptoRow, standIns := [], harness := (true, "119b89295734f5e9669d8cb3cec25337b5e53b3849ea53c7172c889e3f3282c2"), looks := false }, kinds := [], alts := [], laidByText := true, laidKinds := [.data], laidTests := true, laidLooks := .later }
def FnExactIsWithinUptoCardSaid : Prop := Claim7.holds Tryd.pinned (.plain (OpenSpec.upto fnExactIsWithinSpec)) fnExactIsWithinUptoCard

/-- THE SECOND FORM's CARD OF 'laws.FnExactJoinKinds'. -/
def fnExactJoinKindsUptoCard : Claim7 := { stood := { row := fnExactJoinKindsUptoRow, standIns := [], harness := (true, "119b89295734f5e9669d8cb3cec25337b5e53b3849ea53c7172c889e3f3282c2"), looks := false }, kinds := [], alts := [], laidByText := true, laidKinds := [.data], laidTests := true, laidLooks := .later }
def FnExactJoinKindsUptoCardSaid : Prop := Claim7.holds Tryd.pinned (.plain (OpenSpec.upto fnExactJoinKindsSpec)) fnExactJoinKindsUptoCard
end Rows
end Go.Proofs.YtakicpcfghejiaaDoor
