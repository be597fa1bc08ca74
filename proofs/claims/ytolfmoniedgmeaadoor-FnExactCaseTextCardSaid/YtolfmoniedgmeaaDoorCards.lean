/-
  DERIVED. GIVEN WITH THE SEED: THE CARDS: each row of YtolfmoniedgmeaaDoorRows.lean that lists a variable, with what it lists TIED to the program's text (the seventh form; the later family's looks); each row that meets fmt, with fmt's text TOLD by the authors' own Lean function (tested against real Go, not proved from fmt's source: count such statements apart). THE CARD IS WHAT COUNTS. Prove the row's statement (the work); the ties are given (YtolfmoniedgmeaaDoorTie.lean); close each card by the builder's one call (the guide's Derived/Test/ToyasCard.lean, 'card_holds'). Laid BY PROGRAM, IN A SANDBOX (cutbox-door.mjs). By AI agents, Wed Nov 11 2026. No macro, syntax, notation, axiom, sorry.
-/
import Derived.Test.YtolfmoniedgmeaaDoorRows
import GoSem.ClaimSeven
namespace Go.Proofs.YtolfmoniedgmeaaDoor
namespace Rows

/-- THE TIED CARD OF 'laws.FnExactCaseText'. -/
def fnExactCaseTextCard : Claim7 := { stood := { row := fnExactCaseTextRow, standIns := [], harness := (true, "2b8e0e69f914483aa39a8fcd92b8250e4b1efc198ce4fb465e58adcda6597960"), looks := true }, kinds := [], alts := [], laidByText := true, laidKinds := [.data, .data, .data], laidTests := true, laidLooks := .later }
def FnExactCaseTextCardSaid : Prop := Claim7.holds Tryd.pinned (.plain (OpenSpec.ofChange fnExactCaseTextSpec)) fnExactCaseTextCard

/-- THE TIED CARD OF 'laws.FnExactParseCase'. -/
def fnExactParseCaseCard : Claim7 := { stood := { row := fnExactParseCaseRow, standIns := [], harness := (true, "2b8e0e69f914483aa39a8fcd92b8250e4b1efc198ce4fb465e58adcda6597960"), looks := true }, kinds := [], alts := [], laidByText := true, laidKinds := [.data, .data, .data, .sentinel, .sentinel], laidTests := true, laidLooks := .later }
def FnExactParseCaseCardSaid : Prop := Claim7.holds Tryd.pinned (.plain (OpenSpec.ofChange fnExactParseCaseSpec)) fnExactParseCaseCard

/-- THE SECOND FORM's CARD OF 'laws.FnExactCaseText'. -/
def fnExactCaseTextUptoCard : Claim7 := { stood := { row := fnExactCaseTextUptoRow, standIns := [], harness := (true, "2b8e0e69f914483aa39a8fcd92b8250e4b1efc198ce4fb465e58adcda6597960"), looks := true }, kinds := [], alts := [], laidByText := true, laidKinds := [.data, .data, .data], laidTests := true, laidLooks := .later }
def FnExactCaseTextUptoCardSaid : Prop := Claim7.holds Tryd.pinned (.plain (OpenSpec.upto fnExactCaseTextSpec)) fnExactCaseTextUptoCard

/-- THE SECOND FORM's CARD OF 'laws.FnExactParseCase'. -/
def fnExactParseCaseUptoCard : Claim7 := { stood := { row := fnExactParseCaseUptoRow, standIns := [], harness := (true, "2b8e0e69f914483aa39a8fcd92b8250e4b1efc198ce4fb465e58adcda6597960"), looks := true }, kinds := [], alts := [], laidByText := true, laidKinds := [.data, .data, .data, .sentinel, .sentinel], laidTests := true, laidLooks := .later }
def FnExactParseCaseUptoCardSaid : Prop := Claim7.holds Tryd.pinned (.plain (OpenSpec.upto fnExactParseCaseSpec)) fnExactParseCaseUptoCard
end Rows
end Go.Proofs.YtolfmoniedgmeaaDoor
