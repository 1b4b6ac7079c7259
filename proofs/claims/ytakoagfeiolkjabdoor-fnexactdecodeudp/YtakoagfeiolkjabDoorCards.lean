/-
  DERIVED. GIVEN WITH THE SEED: THE CARDS: each row of YtakoagfeiolkjabDoorRows.lean that lists a variable, with what it lists TIED to the program's text (the seventh form; the later family's looks); each row that meets fmt, with fmt's text TOLD by the authors' own Lean function (tested against real Go, not proved from fmt's source: count such statements apart). THE CARD IS WHAT COUNTS. Prove the row's statement (the work); the ties are given (YtakoagfeiolkjabDoorTie.lean); close each card by the builder's one call (the guide's Derived/Test/ToyasCard.lean, 'card_holds'). Laid BY PROGRAM, IN A SANDBOX (cutbox-door.mjs). By AI agents, Wed Nov 11 2026. No macro, syntax, notation, axiom, sorry.
-/
import Derived.Test.YtakoagfeiolkjabDoorRows
import GoSem.ClaimSeven
namespace Go.Proofs.YtakoagfeiolkjabDoor
namespace Rows

/-- THE TIED CARD OF 'laws.FnExactEncodeIcmp'. -/
def fnExactEncodeIcmpCard : Claim7 := { stood := { row := fnExactEncodeIcmpRow, standIns := [], harness := (true, "6e007c5bbfb9583bb6a3167dc07afd03918d30e1615a566c408f71699477490d"), looks := true }, kinds := [], alts := [], laidByText := true, laidKinds := [.handle], laidTests := true, laidLooks := .later }
def FnExactEncodeIcmpCardSaid : Prop := Claim7.holds Tryd.pinned (.plain (OpenSpec.ofChange fnExactEncodeIcmpSpec)) fnExactEncodeIcmpCard

/-- THE TIED CARD OF 'laws.FnExactDecodeUdp'. -/
def fnExactDecodeUdpCard : Claim7 := { stood := { row := fnExactDecodeUdpRow, standIns := [], harness := (true, "6e007c5bbfb9583bb6a3167dc07afd03918d30e1615a566c408f71699477490d"), looks := true }, kinds := [], alts := [], laidByText := true, laidKinds := [.handle], laidTests := true, laidLooks := .later }
def FnExactDecodeUdpCardSaid : Prop := Claim7.holds Tryd.pinned (.plain (OpenSpec.ofChange fnExactDecodeUdpSpec)) fnExactDecodeUdpCard

/-- THE TIED CARD OF 'laws.FnExactEncodeIP'. -/
def fnExactEncodeIPCard : Claim7 := { stood := { row := fnExactEncodeIPRow, standIns := [], harness := (true, "6e007c5bbfb9583bb6a3167dc07afd03918d30e1615a566c408f71699477490d"), looks := true }, kinds := [], alts := [], laidByText := true, laidKinds := [.handle], laidTests := true, laidLooks := .later }
def FnExactEncodeIPCardSaid : Prop := Claim7.holds Tryd.pinned (.plain (OpenSpec.ofChange fnExactEncodeIPSpec)) fnExactEncodeIPCard

/-- THE TIED CARD OF 'laws.FnExactEncodeUdp'. -/
def fnExactEncodeUdpCard : Claim7 := { stood := { row := fnExactEncodeUdpRow, standIns := [], harness := (true, "6e007c5bbfb9583bb6a3167dc07afd03918d30e1615a566c408f71699477490d"), looks := true }, kinds := [], alts := [], laidByText := true, laidKinds := [.handle], laidTests := true, laidLooks := .later }
def FnExactEncodeUdpCardSaid : Prop := Claim7.holds Tryd.pinned (.plain (OpenSpec.ofChange fnExactEncodeUdpSpec)) fnExactEncodeUdpCard

/-- THE TIED CARD OF 'laws.FnExactComplain'. -/
def fnExactComplainCard : Claim7 := { stood := { row := fnExactComplainRow, standIns := [], harness := (true, "6e007c5bbfb9583bb6a3167dc07afd03918d30e1615a566c408f71699477490d"), looks := true }, kinds := [], alts := [], laidByText := true, laidKinds := [.handle], laidTests := true, laidLooks := .later }
def FnExactComplainCardSaid : Prop := Claim7.holds Tryd.pinned (.plain (OpenSpec.ofChange fnExactComplainSpec)) fnExactComplainCard

/-- THE SECOND FORM's CARD OF 'laws.FnExactEncodeIcmp'. -/
def fnExactEncodeIcmpUptoCard : Claim7 := { stood := { row := fnExactEncodeIcmpUptoRow, standIns := [], harness := (true, "6e007c5bbfb9583bb6a3167dc07afd03918d30e1615a566c408f71699477490d"), looks := true }, kinds := [], alts := [], laidByText := true, laidKinds := [.handle], laidTests := true, laidLooks := .later }
def FnExactEncodeIcmpUptoCardSaid : Prop := Claim7.holds Tryd.pinned (.plain (OpenSpec.upto fnExactEncodeIcmpSpec)) fnExactEncodeIcmpUptoCard

/-- THE SECOND FORM's CARD OF 'laws.FnExactDecodeUdp'. -/
def fnExactDecodeUdpUptoCard : Claim7 := { stood := { row := fnExactDecodeUdpUptoRow, standIns := [], harness := (true, "6e007c5bbfb9583bb6a3167dc07afd03918d30e1615a566c408f71699477490d"), looks := true }, kinds := [], alts := [], laidByText := true, laidKinds := [.handle], laidTests := true, laidLooks := .later }
def FnExactDecodeUdpUptoCardSaid : Prop := Claim7.holds Tryd.pinned (.plain (OpenSpec.upto fnExactDecodeUdpSpec)) fnExactDecodeUdpUptoCard

/-- THE SECOND FORM's CARD OF 'laws.FnExactEncodeIP'. -/
def fnExactEncodeIPUptoCard : Claim7 := { stood := { row := fnExactEncodeIPUptoRow, standIns := [], harness := (true, "6e007c5bbfb9583bb6a3167dc07afd03918d30e1615a566c408f71699477490d"), looks := true }, kinds := [], alts := [], laidByText := true, laidKinds := [.handle], laidTests := true, laidLooks := .later }
def FnExactEncodeIPUptoCardSaid : Prop := Claim7.holds Tryd.pinned (.plain (OpenSpec.upto fnExactEncodeIPSpec)) fnExactEncodeIPUptoCard

/-- THE SECOND FORM's CARD OF 'laws.FnExactEncodeUdp'. -/
def fnExactEncodeUdpUptoCard : Claim7 := { stood := { row := fnExactEncodeUdpUptoRow, standIns := [], harness := (true, "6e007c5bbfb9583bb6a3167dc07afd03918d30e1615a566c408f71699477490d"), looks := true }, kinds := [], alts := [], laidByText := true, laidKinds := [.handle], laidTests := true, laidLooks := .later }
def FnExactEncodeUdpUptoCardSaid : Prop := Claim7.holds Tryd.pinned (.plain (OpenSpec.upto fnExactEncodeUdpSpec)) fnExactEncodeUdpUptoCard

/-- THE SECOND FORM's CARD OF 'laws.FnExactComplain'. -/
def fnExactComplainUptoCard : Claim7 := { stood := { row := fnExactComplainUptoRow, standIns := [], harness := (true, "6e007c5bbfb9583bb6a3167dc07afd03918d30e1615a566c408f71699477490d"), looks := true }, kinds := [], alts := [], laidByText := true, laidKinds := [.handle], laidTests := true, laidLooks := .later }
def FnExactComplainUptoCardSaid : Prop := Claim7.holds Tryd.pinned (.plain (OpenSpec.upto fnExactComplainSpec)) fnExactComplainUptoCard
end Rows
end Go.Proofs.YtakoagfeiolkjabDoor
