/-
  DERIVED. GIVEN WITH THE SEED: THE CARDS: each row of YthoinddlnmailabDoorRows.lean that lists a variable, with what it lists TIED to the program's text (the seventh form; the later family's looks); each row that meets fmt, with fmt's text TOLD by the authors' own Lean function (tested against real Go, not proved from fmt's source: count such statements apart). THE CARD IS WHAT COUNTS. Prove the row's statement (the work); the ties are given (YthoinddlnmailabDoorTie.lean); close each card by the builder's one call (the guide's Derived/Test/ToyasCard.lean, 'card_holds'). Laid BY PROGRAM, IN A SANDBOX (cutbox-door.mjs). By AI agents, Wed Nov 11 2026. No macro, syntax, notation, axiom, sorry.
-/
import Derived.Test.YthoinddlnmailabDoorRows
import GoSem.ClaimSeven
namespace Go.Proofs.YthoinddlnmailabDoor
namespace Rows

/-- THE TIED CARD OF 'laws.FnExactEncodeIP'. -/
def fnExactEncodeIPCard : Claim7 := { stood := { row := fnExactEncodeIPRow, standIns := [], harness := (true, "4cdecdd4bf9b8ff74c30c7baefe337bdfe03f6d9658d35d9095e352cdecdc56a"), looks := true }, kinds := [], alts := [], laidByText := true, laidKinds := [.handle], laidTests := true, laidLooks := .later }
def FnExactEncodeIPCardSaid : Prop := Claim7.holds Tryd.pinned (.plain (OpenSpec.ofChange fnExactEncodeIPSpec)) fnExactEncodeIPCard

/-- THE SECOND FORM's CARD OF 'laws.FnExactEncodeIP'. -/
def fnExactEncodeIPUptoCard : Claim7 := { stood := { row := fnExactEncodeIPUptoRow, standIns := [], harness := (true, "4cdecdd4bf9b8ff74c30c7baefe337bdfe03f6d9658d35d9095e352cdecdc56a"), looks := true }, kinds := [], alts := [], laidByText := true, laidKinds := [.handle], laidTests := true, laidLooks := .later }
def FnExactEncodeIPUptoCardSaid : Prop := Claim7.holds Tryd.pinned (.plain (OpenSpec.upto fnExactEncodeIPSpec)) fnExactEncodeIPUptoCard
end Rows
end Go.Proofs.YthoinddlnmailabDoor
