/-
  DERIVED. GIVEN WITH THE SEED: THE CARDS: each row of YtmhahaggeiogiaiDoorRows.lean that lists a variable, with what it lists TIED to the program's text (the seventh form; the later family's looks); each row that meets fmt, with fmt's text TOLD by the authors' own Lean function (tested against real Go, not proved from fmt's source: count such statements apart). THE CARD IS WHAT COUNTS. Prove the row's statement (the work); the ties are given (YtmhahaggeiogiaiDoorTie.lean); close each card by the builder's one call (the guide's Derived/Test/ToyasCard.lean, 'card_holds'). Laid BY PROGRAM, IN A SANDBOX (cutbox-door.mjs). By AI agents, Wed Nov 11 2026. No macro, syntax, notation, axiom, sorry.
-/
import Derived.Test.YtmhahaggeiogiaiDoorRows
import GoSem.ClaimSeven
namespace Go.Proofs.YtmhahaggeiogiaiDoor
namespace Rows

/-- THE TIED CARD OF 'laws.FnExactEncodeArp'. -/
def fnExactEncodeArpCard : Claim7 := { stood := { row := fnExactEncodeArpRow, standIns := [], harness := (true, "886e24e491e9364b561f6d5056865b55d948566c574a604703e396d6d52345ad"), looks := true }, kinds := [], alts := [], laidByText := true, laidKinds := [.handle], laidTests := true, laidLooks := .later }
def FnExactEncodeArpCardSaid : Prop := Claim7.holds Tryd.pinned (.plain (OpenSpec.ofChange fnExactEncodeArpSpec)) fnExactEncodeArpCard

/-- THE SECOND FORM's CARD OF 'laws.FnExactEncodeArp'. -/
def fnExactEncodeArpUptoCard : Claim7 := { stood := { row := fnExactEncodeArpUptoRow, standIns := [], harness := (true, "886e24e491e9364b561f6d5056865b55d948566c574a604703e396d6d52345ad"), looks := true }, kinds := [], alts := [], laidByText := true, laidKinds := [.handle], laidTests := true, laidLooks := .later }
def FnExactEncodeArpUptoCardSaid : Prop := Claim7.holds Tryd.pinned (.plain (OpenSpec.upto fnExactEncodeArpSpec)) fnExactEncodeArpUptoCard
end Rows
end Go.Proofs.YtmhahaggeiogiaiDoor
