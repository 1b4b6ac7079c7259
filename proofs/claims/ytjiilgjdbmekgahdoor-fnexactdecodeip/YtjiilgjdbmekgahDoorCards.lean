/-
  DERIVED. GIVEN WITH THE SEED: THE CARDS: each row of YtjiilgjdbmekgahDoorRows.lean that lists a variable, with what it lists TIED to the program's text (the seventh form; the later family's looks); each row that meets fmt, with fmt's text TOLD by the authors' own Lean function (tested against real Go, not proved from fmt's source: count such statements apart). THE CARD IS WHAT COUNTS. Prove the row's statement (the work); the ties are given (YtjiilgjdbmekgahDoorTie.lean); close each card by the builder's one call (the guide's Derived/Test/ToyasCard.lean, 'card_holds'). Laid BY PROGRAM, IN A SANDBOX (cutbox-door.mjs). By AI agents, Wed Nov 11 2026. No macro, syntax, notation, axiom, sorry.
-/
import Derived.Test.YtjiilgjdbmekgahDoorRows
import GoSem.ClaimSeven
namespace Go.Proofs.YtjiilgjdbmekgahDoor
namespace Rows

/-- THE TIED CARD OF 'laws.FnExactDecodeFrame'. -/
def fnExactDecodeFrameCard : Claim7 := { stood := { row := fnExactDecodeFrameRow, standIns := [], harness := (true, "08042923dc25a69dbde7091b2ba307480807ccf2c8cce2a50f9c0b456d11f644"), looks := true }, kinds := [], alts := [], laidByText := true, laidKinds := [.handle], laidTests := true, laidLooks := .later }
def FnExactDecodeFrameCardSaid : Prop := Claim7.holds Tryd.pinned (.plain (OpenSpec.ofChange fnExactDecodeFrameSpec)) fnExactDecodeFrameCard

/-- THE TIED CARD OF 'laws.FnExactDecodeArp'. -/
def fnExactDecodeArpCard : Claim7 := { stood := { row := fnExactDecodeArpRow, standIns := [], harness := (true, "08042923dc25a69dbde7091b2ba307480807ccf2c8cce2a50f9c0b456d11f644"), looks := true }, kinds := [], alts := [], laidByText := true, laidKinds := [.handle], laidTests := true, laidLooks := .later }
def FnExactDecodeArpCardSaid : Prop := Claim7.holds Tryd.pinned (.plain (OpenSpec.ofChange fnExactDecodeArpSpec)) fnExactDecodeArpCard

/-- THE TIED CARD OF 'laws.FnExactDecodeIP'. -/
def fnExactDecodeIPCard : Claim7 := { stood := { row := fnExactDecodeIPRow, standIns := [], harness := (true, "08042923dc25a69dbde7091b2ba307480807ccf2c8cce2a50f9c0b456d11f644"), looks := true }, kinds := [], alts := [], laidByText := true, laidKinds := [.handle], laidTests := true, laidLooks := .later }
def FnExactDecodeIPCardSaid : Prop := Claim7.holds Tryd.pinned (.plain (OpenSpec.ofChange fnExactDecodeIPSpec)) fnExactDecodeIPCard

/-- THE SECOND FORM's CARD OF 'laws.FnExactDecodeFrame'. -/
def fnExactDecodeFrameUptoCard : Claim7 := { stood := { row := fnExactDecodeFrameUptoRow, standIns := [], harness := (true, "08042923dc25a69dbde7091b2ba307480807ccf2c8cce2a50f9c0b456d11f644"), looks := true }, kinds := [], alts := [], laidByText := true, laidKinds := [.handle], laidTests := true, laidLooks := .later }
def FnExactDecodeFrameUptoCardSaid : Prop := Claim7.holds Tryd.pinned (.plain (OpenSpec.upto fnExactDecodeFrameSpec)) fnExactDecodeFrameUptoCard

/-- THE SECOND FORM's CARD OF 'laws.FnExactDecodeArp'. -/
def fnExactDecodeArpUptoCard : Claim7 := { stood := { row := fnExactDecodeArpUptoRow, standIns := [], harness := (true, "08042923dc25a69dbde7091b2ba307480807ccf2c8cce2a50f9c0b456d11f644"), looks := true }, kinds := [], alts := [], laidByText := true, laidKinds := [.handle], laidTests := true, laidLooks := .later }
def FnExactDecodeArpUptoCardSaid : Prop := Claim7.holds Tryd.pinned (.plain (OpenSpec.upto fnExactDecodeArpSpec)) fnExactDecodeArpUptoCard

/-- THE SECOND FORM's CARD OF 'laws.FnExactDecodeIP'. -/
def fnExactDecodeIPUptoCard : Claim7 := { stood := { row := fnExactDecodeIPUptoRow, standIns := [], harness := (true, "08042923dc25a69dbde7091b2ba307480807ccf2c8cce2a50f9c0b456d11f644"), looks := true }, kinds := [], alts := [], laidByText := true, laidKinds := [.handle], laidTests := true, laidLooks := .later }
def FnExactDecodeIPUptoCardSaid : Prop := Claim7.holds Tryd.pinned (.plain (OpenSpec.upto fnExactDecodeIPSpec)) fnExactDecodeIPUptoCard
end Rows
end Go.Proofs.YtjiilgjdbmekgahDoor
