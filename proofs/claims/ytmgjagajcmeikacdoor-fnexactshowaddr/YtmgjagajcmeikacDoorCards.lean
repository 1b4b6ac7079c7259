/-
  DERIVED. GIVEN WITH THE SEED: THE CARDS: each row of YtmgjagajcmeikacDoorRows.lean that lists a variable, with what it lists TIED to the program's text (the seventh form; the later family's looks); each row that meets fmt, with fmt's text TOLD by the authors' own Lean function (tested against real Go, not proved from fmt's source: count such statements apart). THE CARD IS WHAT COUNTS. Prove the row's statement (the work); the ties are given (YtmgjagajcmeikacDoorTie.lean); close each card by the builder's one call (the guide's Derived/Test/ToyasCard.lean, 'card_holds'). Laid BY PROGRAM, IN A SANDBOX (cutbox-door.mjs). By AI agents, Wed Nov 11 2026. No macro, syntax, notation, axiom, sorry.
-/
import Derived.Test.YtmgjagajcmeikacDoorRows
import GoSem.ClaimSeven
namespace Go.Proofs.YtmgjagajcmeikacDoor
namespace Rows

/-- THE TIED CARD OF 'laws.FnExactShowAddr'. -/
def fnExactShowAddrCard : Claim7 := { stood := { row := fnExactShowAddrRow, standIns := [], harness := (true, "16f8f690b44ed5ca91816fa1d28e7466a37bdb5cb6cecda79c5af273d86947aa"), looks := false }, kinds := [], alts := [], laidByText := true, laidKinds := [.data, .data, .data], laidTests := true, laidLooks := .later }
def FnExactShowAddrCardSaid : Prop := Claim7.holds Tryd.pinned (.plain (OpenSpec.ofChange fnExactShowAddrSpec)) fnExactShowAddrCard

/-- THE SECOND FORM's CARD OF 'laws.FnExactShowAddr'. -/
def fnExactShowAddrUptoCard : Claim7 := { stood := { row := fnExactShowAddrUptoRow, standIns := [], harness := (true, "16f8f690b44ed5ca91816fa1d28e7466a37bdb5cb6cecda79c5af273d86947aa"), looks := false }, kinds := [], alts := [], laidByText := true, laidKinds := [.data, .data, .data], laidTests := true, laidLooks := .later }
def FnExactShowAddrUptoCardSaid : Prop := Claim7.holds Tryd.pinned (.plain (OpenSpec.upto fnExactShowAddrSpec)) fnExactShowAddrUptoCard
end Rows
end Go.Proofs.YtmgjagajcmeikacDoor
