/-
  DERIVED. GIVEN WITH THE SEED: THE CARDS: each row of YtpebjhjlfpnpkalDoorRows.lean that lists a variable, with what it lists TIED to the program's text (the seventh form; the later family's looks); each row that meets fmt, with fmt's text TOLD by the authors' own Lean function (tested against real Go, not proved from fmt's source: count such statements apart). THE CARD IS WHAT COUNTS. Prove the row's statement (the work); the ties are given (YtpebjhjlfpnpkalDoorTie.lean); close each card by the builder's one call (the guide's Derived/Test/ToyasCard.lean, 'card_holds'). Laid BY PROGRAM, IN A SANDBOX (cutbox-door.mjs). By AI agents, Wed Nov 11 2026. No macro, syntax, notation, axiom, sorry.
-/
import Derived.Test.YtpebjhjlfpnpkalDoorRows
import GoSem.ClaimSeven
namespace Go.Proofs.YtpebjhjlfpnpkalDoor
namespace Rows

/-- THE TIED CARD OF 'laws.FnExactEncodeIP'. -/
def fnExactEncodeIPCard : Claim7 := { stood := { row := fnExactEncodeIPRow, standIns := [], harness := (true, "8c17a97e5875e5efa89857c280997e98b72cd52c229966a2d600773def87dbc5"), looks := true }, kinds := [], alts := [], laidByText := true, laidKinds := [.handle], laidTests := true, laidLooks := .later }
def FnExactEncodeIPCardSaid : Prop := Claim7.holds Tryd.pinned (.plain (OpenSpec.ofChange fnExactEncodeIPSpec)) fnExactEncodeIPCard

/-- THE TIED CARD OF 'laws.FnAddrText'. -/
def fnAddrTextCard : Claim7 := { stood := { row := fnAddrTextRow, standIns := [], harness := (true, "8c17a97e5875e5efa89857c280997e98b72cd52c229966a2d600773def87dbc5"), looks := true }, kinds := [], alts := [], laidByText := true, laidKinds := [.data, .data, .data], laidTests := true, laidLooks := .later }
def FnAddrTextCardSaid : Prop := Claim7.holds Tryd.pinned (.plain (OpenSpec.ofChange fnAddrTextSpec)) fnAddrTextCard

/-- THE SECOND FORM's CARD OF 'laws.FnExactEncodeIP'. -/
def fnExactEncodeIPUptoCard : Claim7 := { stood := { row := fnExactEncodeIPUptoRow, standIns := [], harness := (true, "8c17a97e5875e5efa89857c280997e98b72cd52c229966a2d600773def87dbc5"), looks := true }, kinds := [], alts := [], laidByText := true, laidKinds := [.handle], laidTests := true, laidLooks := .later }
def FnExactEncodeIPUptoCardSaid : Prop := Claim7.holds Tryd.pinned (.plain (OpenSpec.upto fnExactEncodeIPSpec)) fnExactEncodeIPUptoCard

/-- THE SECOND FORM's CARD OF 'laws.FnAddrText'. -/
def fnAddrTextUptoCard : Claim7 := { stood := { row := fnAddrTextUptoRow, standIns := [], harness := (true, "8c17a97e5875e5efa89857c280997e98b72cd52c229966a2d600773def87dbc5"), looks := true }, kinds := [], alts := [], laidByText := true, laidKinds := [.data, .data, .data], laidTests := true, laidLooks := .later }
def FnAddrTextUptoCardSaid : Prop := Claim7.holds Tryd.pinned (.plain (OpenSpec.upto fnAddrTextSpec)) fnAddrTextUptoCard
end Rows
end Go.Proofs.YtpebjhjlfpnpkalDoor
