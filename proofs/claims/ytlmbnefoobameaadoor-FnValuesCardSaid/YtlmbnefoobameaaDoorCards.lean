/-
  DERIVED. GIVEN WITH THE SEED: THE CARDS: each row of YtlmbnefoobameaaDoorRows.lean that lists a variable, with what it lists TIED to the program's text (the seventh form; the later family's looks); each row that meets fmt, with fmt's text TOLD by the authors' own Lean function (tested against real Go, not proved from fmt's source: count such statements apart). THE CARD IS WHAT COUNTS. Prove the row's statement (the work); the ties are given (YtlmbnefoobameaaDoorTie.lean); close each card by the builder's one call (the guide's Derived/Test/ToyasCard.lean, 'card_holds'). Laid BY PROGRAM, IN A SANDBOX (cutbox-door.mjs). By AI agents, Wed Nov 11 2026. No macro, syntax, notation, axiom, sorry.
-/
import Derived.Test.YtlmbnefoobameaaDoorRows
import GoSem.ClaimSeven
namespace Go.Proofs.YtlmbnefoobameaaDoor
namespace Rows

/-- THE TIED CARD OF 'laws.FnValues'. -/
def fnValuesCard : Claim7 := { stood := { row := fnValuesRow, standIns := [], harness := (true, "d2891b819921b60ce034e2d7d37c066f5589e6cc5b54aa4f571d1ae01bf16abe"), looks := true }, kinds := [], alts := [], laidByText := true, laidKinds := [.data], laidTests := true, laidLooks := .later }
def FnValuesCardSaid : Prop := Claim7.holds Tryd.pinned (.plain (OpenSpec.ofChange fnValuesSpec)) fnValuesCard

/-- THE TIED CARD OF 'laws.FnExactFormatOptic'. -/
def fnExactFormatOpticCard : Claim7 := { stood := { row := fnExactFormatOpticRow, standIns := [], harness := (true, "d2891b819921b60ce034e2d7d37c066f5589e6cc5b54aa4f571d1ae01bf16abe"), looks := true }, kinds := [], alts := [], laidByText := true, laidKinds := [.data, .data, .data], laidTests := true, laidLooks := .later }
def FnExactFormatOpticCardSaid : Prop := Claim7.holds Tryd.pinned (.plain (OpenSpec.ofChange fnExactFormatOpticSpec)) fnExactFormatOpticCard

/-- THE TIED CARD OF 'laws.FnExactParseOptic'. -/
def fnExactParseOpticCard : Claim7 := { stood := { row := fnExactParseOpticRow, standIns := [], harness := (true, "d2891b819921b60ce034e2d7d37c066f5589e6cc5b54aa4f571d1ae01bf16abe"), looks := true }, kinds := [], alts := [], laidByText := true, laidKinds := [.data, .data, .data, .sentinel, .sentinel], laidTests := true, laidLooks := .later }
def FnExactParseOpticCardSaid : Prop := Claim7.holds Tryd.pinned (.plain (OpenSpec.ofChange fnExactParseOpticSpec)) fnExactParseOpticCard

/-- THE SECOND FORM's CARD OF 'laws.FnValues'. -/
def fnValuesUptoCard : Claim7 := { stood := { row := fnValuesUptoRow, standIns := [], harness := (true, "d2891b819921b60ce034e2d7d37c066f5589e6cc5b54aa4f571d1ae01bf16abe"), looks := true }, kinds := [], alts := [], laidByText := true, laidKinds := [.data], laidTests := true, laidLooks := .later }
def FnValuesUptoCardSaid : Prop := Claim7.holds Tryd.pinned (.plain (OpenSpec.upto fnValuesSpec)) fnValuesUptoCard

/-- THE SECOND FORM's CARD OF 'laws.FnExactFormatOptic'. -/
def fnExactFormatOpticUptoCard : Claim7 := { stood := { row := fnExactFormatOpticUptoRow, standIns := [], harness := (true, "d2891b819921b60ce034e2d7d37c066f5589e6cc5b54aa4f571d1ae01bf16abe"), looks := true }, kinds := [], alts := [], laidByText := true, laidKinds := [.data, .data, .data], laidTests := true, laidLooks := .later }
def FnExactFormatOpticUptoCardSaid : Prop := Claim7.holds Tryd.pinned (.plain (OpenSpec.upto fnExactFormatOpticSpec)) fnExactFormatOpticUptoCard

/-- THE SECOND FORM's CARD OF 'laws.FnExactParseOptic'. -/
def fnExactParseOpticUptoCard : Claim7 := { stood := { row := fnExactParseOpticUptoRow, standIns := [], harness := (true, "d2891b819921b60ce034e2d7d37c066f5589e6cc5b54aa4f571d1ae01bf16abe"), looks := true }, kinds := [], alts := [], laidByText := true, laidKinds := [.data, .data, .data, .sentinel, .sentinel], laidTests := true, laidLooks := .later }
def FnExactParseOpticUptoCardSaid : Prop := Claim7.holds Tryd.pinned (.plain (OpenSpec.upto fnExactParseOpticSpec)) fnExactParseOpticUptoCard
end Rows
end Go.Proofs.YtlmbnefoobameaaDoor
