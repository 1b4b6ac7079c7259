/-
  DERIVED. GIVEN WITH THE SEED: THE CARDS: each row of YtnlajjlpojihnajDoorRows.lean that lists a variable, with what it lists TIED to the program's text (the seventh form; the later family's looks); each row that meets fmt, with fmt's text TOLD by the authors' own Lean function (tested against real Go, not proved from fmt's source: count such statements apart). THE CARD IS WHAT COUNTS. Prove the row's statement (the work); the ties are given (YtnlajjlpojihnajDoorTie.lean); close each card by the builder's one call (the guide's Derived/Test/ToyasCard.lean, 'card_holds'). Laid BY PROGRAM, IN A SANDBOX (cutbox-door.mjs). By AI agents, Wed Nov 11 2026. No macro, syntax, notation, axiom, sorry.
-/
import Derived.Test.YtnlajjlpojihnajDoorRows
import GoSem.ClaimSeven
namespace Go.Proofs.YtnlajjlpojihnajDoor
namespace Rows

/-- THE TIED CARD OF 'laws.FnExactEncodeFrame'. -/
def fnExactEncodeFrameCard : Claim7 := { stood := { row := fnExactEncodeFrameRow, standIns := [], harness := (true, "fdfa951ea4371041e8acd6ab37d6a0b04de65cf4d5b9f7cb6cf4d7363129010a"), looks := true }, kinds := [], alts := [], laidByText := true, laidKinds := [.handle], laidTests := true, laidLooks := .later }
def FnExactEncodeFrameCardSaid : Prop := Claim7.holds Tryd.pinned (.plain (OpenSpec.ofChange fnExactEncodeFrameSpec)) fnExactEncodeFrameCard

/-- THE SECOND FORM's CARD OF 'laws.FnExactEncodeFrame'. -/
def fnExactEncodeFrameUptoCard : Claim7 := { stood := { row := fnExactEncodeFrameUptoRow, standIns := [], harness := (true, "fdfa951ea4371041e8acd6ab37d6a0b04de65cf4d5b9f7cb6cf4d7363129010a"), looks := true }, kinds := [], alts := [], laidByText := true, laidKinds := [.handle], laidTests := true, laidLooks := .later }
def FnExactEncodeFrameUptoCardSaid : Prop := Claim7.holds Tryd.pinned (.plain (OpenSpec.upto fnExactEncodeFrameSpec)) fnExactEncodeFrameUptoCard
end Rows
end Go.Proofs.YtnlajjlpojihnajDoor
