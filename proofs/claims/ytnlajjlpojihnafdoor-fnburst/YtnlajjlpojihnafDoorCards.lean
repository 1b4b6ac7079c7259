/-
  DERIVED. GIVEN WITH THE SEED: THE CARDS: each row of YtnlajjlpojihnafDoorRows.lean that lists a variable, with what it lists TIED to the program's text (the seventh form; the later family's looks); each row that meets fmt, with fmt's text TOLD by the authors' own Lean function (tested against real Go, not proved from fmt's source: count such statements apart). THE CARD IS WHAT COUNTS. Prove the row's statement (the work); the ties are given (YtnlajjlpojihnafDoorTie.lean); close each card by the builder's one call (the guide's Derived/Test/ToyasCard.lean, 'card_holds'). Laid BY PROGRAM, IN A SANDBOX (cutbox-door.mjs). By AI agents, Wed Nov 11 2026. No macro, syntax, notation, axiom, sorry.
-/
import Derived.Test.YtnlajjlpojihnafDoorRows
import GoSem.ClaimSeven
namespace Go.Proofs.YtnlajjlpojihnafDoor
namespace Rows

/-- THE TIED CARD OF 'laws.FnBurst'. -/
def fnBurstCard : Claim7 := { stood := { row := fnBurstRow, standIns := [], harness := (true, "c5116a38c134bdaa9deba1bec9d78c5c358d9a8968b6c2948c36528bc9af7e21"), looks := true }, kinds := [], alts := [], laidByText := true, laidKinds := [.handle], laidTests := true, laidLooks := .later }
def FnBurstCardSaid : Prop := Claim7.holds Tryd.pinned (.plain (OpenSpec.ofChange fnBurstSpec)) fnBurstCard

/-- THE SECOND FORM's CARD OF 'laws.FnBurst'. -/
def fnBurstUptoCard : Claim7 := { stood := { row := fnBurstUptoRow, standIns := [], harness := (true, "c5116a38c134bdaa9deba1bec9d78c5c358d9a8968b6c2948c36528bc9af7e21"), looks := true }, kinds := [], alts := [], laidByText := true, laidKinds := [.handle], laidTests := true, laidLooks := .later }
def FnBurstUptoCardSaid : Prop := Claim7.holds Tryd.pinned (.plain (OpenSpec.upto fnBurstSpec)) fnBurstUptoCard
end Rows
end Go.Proofs.YtnlajjlpojihnafDoor
