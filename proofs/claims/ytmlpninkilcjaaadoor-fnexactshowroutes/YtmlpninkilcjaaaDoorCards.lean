/-
  DERIVED. GIVEN WITH THE SEED: THE CARDS: each row of YtmlpninkilcjaaaDoorRows.lean that lists a variable, with what it lists TIED to the program's text (the seventh form; the later family's looks); each row that meets fmt, with fmt's text TOLD by the authors' own Lean function (tested against real Go, not proved from fmt's source: count such statements apart). THE CARD IS WHAT COUNTS. Prove the row's statement (the work); the ties are given (YtmlpninkilcjaaaDoorTie.lean); close each card by the builder's one call (the guide's Derived/Test/ToyasCard.lean, 'card_holds'). Laid BY PROGRAM, IN A SANDBOX (cutbox-door.mjs). By AI agents, Wed Nov 11 2026. No macro, syntax, notation, axiom, sorry.
-/
import Derived.Test.YtmlpninkilcjaaaDoorRows
import GoSem.ClaimSeven
namespace Go.Proofs.YtmlpninkilcjaaaDoor
namespace Rows

/-- THE TIED CARD OF 'laws.FnExactShowRoutes'. -/
def fnExactShowRoutesCard : Claim7 := { stood := { row := fnExactShowRoutesRow, standIns := [], harness := (true, "8957326cfd94a7dac2c2a909e5534609758ad730dee6f76f7741cdb82dbcf00e"), looks := false }, kinds := [], alts := [], laidByText := true, laidKinds := [.data, .data, .data], laidTests := true, laidLooks := .later }
def FnExactShowRoutesCardSaid : Prop := Claim7.holds Tryd.pinned (.plain (OpenSpec.ofChange fnExactShowRoutesSpec)) fnExactShowRoutesCard

/-- THE SECOND FORM's CARD OF 'laws.FnExactShowRoutes'. -/
def fnExactShowRoutesUptoCard : Claim7 := { stood := { row := fnExactShowRoutesUptoRow, standIns := [], harness := (true, "8957326cfd94a7dac2c2a909e5534609758ad730dee6f76f7741cdb82dbcf00e"), looks := false }, kinds := [], alts := [], laidByText := true, laidKinds := [.data, .data, .data], laidTests := true, laidLooks := .later }
def FnExactShowRoutesUptoCardSaid : Prop := Claim7.holds Tryd.pinned (.plain (OpenSpec.upto fnExactShowRoutesSpec)) fnExactShowRoutesUptoCard
end Rows
end Go.Proofs.YtmlpninkilcjaaaDoor
