/-
  DERIVED. GIVEN WITH THE SEED: THE CARDS: each row of YtmhahaggeiogiahDoorRows.lean that lists a variable, with what it lists TIED to the program's text (the seventh form; the later family's looks); each row that meets fmt, with fmt's text TOLD by the authors' own Lean function (tested against real Go, not proved from fmt's source: count such statements apart). THE CARD IS WHAT COUNTS. Prove the row's statement (the work); the ties are given (YtmhahaggeiogiahDoorTie.lean); close each card by the builder's one call (the guide's Derived/Test/ToyasCard.lean, 'card_holds'). Laid BY PROGRAM, IN A SANDBOX (cutbox-door.mjs). By AI agents, Wed Nov 11 2026. No macro, syntax, notation, axiom, sorry.
-/
import Derived.Test.YtmhahaggeiogiahDoorRows
import GoSem.ClaimSeven
namespace Go.Proofs.YtmhahaggeiogiahDoor
namespace Rows

/-- THE TIED CARD OF 'laws.FnExactDecodeFrame'. -/
def fnExactDecodeFrameCard : Claim7 := { stood := { row := fnExactDecodeFrameRow, standIns := [], harness := (true, "701ae1c777af2939e712a535a60fd7713a0af1229f54caf352055fd4c0b74d15"), looks := true }, kinds := [], alts := [], laidByText := true, laidKinds := [.handle], laidTests := true, laidLooks := .later }
def FnExactDecodeFrameCardSaid : Prop := Claim7.holds Tryd.pinned (.plain (OpenSpec.ofChange fnExactDecodeFrameSpec)) fnExactDecodeFrameCard

/-- THE TIED CARD OF 'laws.FnExactDecodeArp'. -/
def fnExactDecodeArpCard : Claim7 := { stood := { row := fnExactDecodeArpRow, standIns := [], harness := (true, "701ae1c777af2939e712a535a60fd7713a0af1229f54caf352055fd4c0b74d15"), looks := true }, kinds := [], alts := [], laidByText := true, laidKinds := [.handle], laidTests := true, laidLooks := .later }
def FnExactDecodeArpCardSaid : Prop := Claim7.holds Tryd.pinned (.plain (OpenSpec.ofChange fnExactDecodeArpSpec)) fnExactDecodeArpCard

/-- THE SECOND FORM's CARD OF 'laws.FnExactDecodeFrame'. -/
def fnExactDecodeFrameUptoCard : Claim7 := { stood := { row := fnExactDecodeFrameUptoRow, standIns := [], harness := (true, "701ae1c777af2939e712a535a60fd7713a0af1229f54caf352055fd4c0b74d15"), looks := true }, kinds := [], alts := [], laidByText := true, laidKinds := [.handle], laidTests := true, laidLooks := .later }
def FnExactDecodeFrameUptoCardSaid : Prop := Claim7.holds Tryd.pinned (.plain (OpenSpec.upto fnExactDecodeFrameSpec)) fnExactDecodeFrameUptoCard

/-- THE SECOND FORM's CARD OF 'laws.FnExactDecodeArp'. -/
def fnExactDecodeArpUptoCard : Claim7 := { stood := { row := fnExactDecodeArpUptoRow, standIns := [], harness := (true, "701ae1c777af2939e712a535a60fd7713a0af1229f54caf352055fd4c0b74d15"), looks := true }, kinds := [], alts := [], laidByText := true, laidKinds := [.handle], laidTests := true, laidLooks := .later }
def FnExactDecodeArpUptoCardSaid : Prop := Claim7.holds Tryd.pinned (.plain (OpenSpec.upto fnExactDecodeArpSpec)) fnExactDecodeArpUptoCard
end Rows
end Go.Proofs.YtmhahaggeiogiahDoor
