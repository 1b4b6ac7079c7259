/-
  DERIVED. GIVEN WITH THE SEED: THE CARDS: each row of YthbkhfiadkookaaGreatDoorRows.lean that lists a variable, with what it lists TIED to the program's text (the seventh form; the later family's looks); each row that meets fmt, with fmt's text TOLD by the authors' own Lean function (tested against real Go, not proved from fmt's source: count such statements apart). THE CARD IS WHAT COUNTS. Prove the row's statement (the work); the ties are given (YthbkhfiadkookaaGreatDoorTie.lean); close each card by the builder's one call (the guide's Derived/Test/ToyasCard.lean, 'card_holds'). Laid BY PROGRAM, IN A SANDBOX (cutbox-door.mjs). By AI agents, Wed Nov 11 2026. No macro, syntax, notation, axiom, sorry.
-/
import Derived.Test.YthbkhfiadkookaaGreatDoorRows
import GoSem.ClaimSeven
namespace Go.Proofs.YthbkhfiadkookaaGreatDoor
namespace Rows

/-- THE TIED CARD OF 'laws.FnComplain'. -/
def fnComplainCard : Claim7 := { stood := { row := fnComplainRow, standIns := [], harness := (true, "b2a0bd586d4e13da1f80f87876e1db25ac7cc85e9c1c1bb0f8ccb68ed6d6cfd4"), looks := true }, kinds := [], alts := [], laidByText := true, laidKinds := [.handle], laidTests := true, laidLooks := .later }
def FnComplainCardSaid : Prop := Claim7.holds Tryz.pinned (.plain (OpenSpec.ofChange fnComplainSpec)) fnComplainCard

/-- THE SECOND FORM's CARD OF 'laws.FnComplain'. -/
def fnComplainUptoCard : Claim7 := { stood := { row := fnComplainUptoRow, standIns := [], harness := (true, "b2a0bd586d4e13da1f80f87876e1db25ac7cc85e9c1c1bb0f8ccb68ed6d6cfd4"), looks := true }, kinds := [], alts := [], laidByText := true, laidKinds := [.handle], laidTests := true, laidLooks := .later }
def FnComplainUptoCardSaid : Prop := Claim7.holds Tryz.pinned (.plain (OpenSpec.upto fnComplainSpec)) fnComplainUptoCard
end Rows
end Go.Proofs.YthbkhfiadkookaaGreatDoor
