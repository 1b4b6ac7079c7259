/-
  DERIVED. GIVEN WITH THE SEED: THE CARDS: each row of YtmgjagajcmeikagDoorRows.lean that lists a variable, with what it lists TIED to the program's text (the seventh form; the later family's looks); each row that meets fmt, with fmt's text TOLD by the authors' own Lean function (tested against real Go, not proved from fmt's source: count such statements apart). THE CARD IS WHAT COUNTS. Prove the row's statement (the work); the ties are given (YtmgjagajcmeikagDoorTie.lean); close each card by the builder's one call (the guide's Derived/Test/ToyasCard.lean, 'card_holds'). Laid BY PROGRAM, IN A SANDBOX (cutbox-door.mjs). By AI agents, Wed Nov 11 2026. No macro, syntax, notation, axiom, sorry.
-/
import Derived.Test.YtmgjagajcmeikagDoorRows
import GoSem.ClaimSeven
namespace Go.Proofs.YtmgjagajcmeikagDoor
namespace Rows

/-- THE TIED CARD OF 'laws.FnExactShowPrefix'. -/
def fnExactShowPrefixCard : Claim7 := { stood := { row := fnExactShowPrefixRow, standIns := [], harness := (true, "f5f3c753e77b6cf1f32bc0d12fabe11ff282a99480db0fc639525be63c0a8226"), looks := false }, kinds := [], alts := [], laidByText := true, laidKinds := [.data, .data, .data], laidTests := true, laidLooks := .later }
def FnExactShowPrefixCardSaid : Prop := Claim7.holds Tryd.pinned (.plain (OpenSpec.ofChange fnExactShowPrefixSpec)) fnExactShowPrefixCard

/-- THE SECOND FORM's CARD OF 'laws.FnExactShowPrefix'. -/
def fnExactShowPrefixUptoCard : Claim7 := { stood := { row := fnExactShowPrefixUptoRow, standIns := [], harness := (true, "f5f3c753e77b6cf1f32bc0d12fabe11ff282a99480db0fc639525be63c0a8226"), looks := false }, kinds := [], alts := [], laidByText := true, laidKinds := [.data, .data, .data], laidTests := true, laidLooks := .later }
def FnExactShowPrefixUptoCardSaid : Prop := Claim7.holds Tryd.pinned (.plain (OpenSpec.upto fnExactShowPrefixSpec)) fnExactShowPrefixUptoCard
end Rows
end Go.Proofs.YtmgjagajcmeikagDoor
