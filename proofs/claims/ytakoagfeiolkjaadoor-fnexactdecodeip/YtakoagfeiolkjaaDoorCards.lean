/-
  DERIVED. GIVEN WITH THE SEED: THE CARDS: each row of YtakoagfeiolkjaaDoorRows.lean that lists a variable, with what it lists TIED to the program's text (the seventh form; the later family's looks); each row that meets fmt, with fmt's text TOLD by the authors' own Lean function (tested against real Go, not proved from fmt's source: count such statements apart). THE CARD IS WHAT COUNTS. Prove the row's statement (the work); the ties are given (YtakoagfeiolkjaaDoorTie.lean); close each card by the builder's one call (the guide's Derived/Test/ToyasCard.lean, 'card_holds'). Laid BY PROGRAM, IN A SANDBOX (cutbox-door.mjs). By AI agents, Wed Nov 11 2026. No macro, syntax, notation, axiom, sorry.
-/
import Derived.Test.YtakoagfeiolkjaaDoorRows
import GoSem.ClaimSeven
namespace Go.Proofs.YtakoagfeiolkjaaDoor
namespace Rows

/-- THE TIED CARD OF 'laws.FnExactReadQuote'. -/
def fnExactReadQuoteCard : Claim7 := { stood := { row := fnExactReadQuoteRow, standIns := [], harness := (true, "614bc7f41cd3402327001a6dc4fd917a27726d9d06a37e797dc486d7a9ecbe0b"), looks := true }, kinds := [], alts := [], laidByText := true, laidKinds := [.handle], laidTests := true, laidLooks := .later }
def FnExactReadQuoteCardSaid : Prop := Claim7.holds Tryd.pinned (.plain (OpenSpec.ofChange fnExactReadQuoteSpec)) fnExactReadQuoteCard

/-- THE TIED CARD OF 'laws.FnExactDecodeIcmp'. -/
def fnExactDecodeIcmpCard : Claim7 := { stood := { row := fnExactDecodeIcmpRow, standIns := [], harness := (true, "614bc7f41cd3402327001a6dc4fd917a27726d9d06a37e797dc486d7a9ecbe0b"), looks := true }, kinds := [], alts := [], laidByText := true, laidKinds := [.handle], laidTests := true, laidLooks := .later }
def FnExactDecodeIcmpCardSaid : Prop := Claim7.holds Tryd.pinned (.plain (OpenSpec.ofChange fnExactDecodeIcmpSpec)) fnExactDecodeIcmpCard

/-- THE TIED CARD OF 'laws.FnExactDecodeIP'. -/
def fnExactDecodeIPCard : Claim7 := { stood := { row := fnExactDecodeIPRow, standIns := [], harness := (true, "614bc7f41cd3402327001a6dc4fd917a27726d9d06a37e797dc486d7a9ecbe0b"), looks := true }, kinds := [], alts := [], laidByText := true, laidKinds := [.handle], laidTests := true, laidLooks := .later }
def FnExactDecodeIPCardSaid : Prop := Claim7.holds Tryd.pinned (.plain (OpenSpec.ofChange fnExactDecodeIPSpec)) fnExactDecodeIPCard

/-- THE SECOND FORM's CARD OF 'laws.FnExactReadQuote'. -/
def fnExactReadQuoteUptoCard : Claim7 := { stood := { row := fnExactReadQuoteUptoRow, standIns := [], harness := (true, "614bc7f41cd3402327001a6dc4fd917a27726d9d06a37e797dc486d7a9ecbe0b"), looks := true }, kinds := [], alts := [], laidByText := true, laidKinds := [.handle], laidTests := true, laidLooks := .later }
def FnExactReadQuoteUptoCardSaid : Prop := Claim7.holds Tryd.pinned (.plain (OpenSpec.upto fnExactReadQuoteSpec)) fnExactReadQuoteUptoCard

/-- THE SECOND FORM's CARD OF 'laws.FnExactDecodeIcmp'. -/
def fnExactDecodeIcmpUptoCard : Claim7 := { stood := { row := fnExactDecodeIcmpUptoRow, standIns := [], harness := (true, "614bc7f41cd3402327001a6dc4fd917a27726d9d06a37e797dc486d7a9ecbe0b"), looks := true }, kinds := [], alts := [], laidByText := true, laidKinds := [.handle], laidTests := true, laidLooks := .later }
def FnExactDecodeIcmpUptoCardSaid : Prop := Claim7.holds Tryd.pinned (.plain (OpenSpec.upto fnExactDecodeIcmpSpec)) fnExactDecodeIcmpUptoCard

/-- THE SECOND FORM's CARD OF 'laws.FnExactDecodeIP'. -/
def fnExactDecodeIPUptoCard : Claim7 := { stood := { row := fnExactDecodeIPUptoRow, standIns := [], harness := (true, "614bc7f41cd3402327001a6dc4fd917a27726d9d06a37e797dc486d7a9ecbe0b"), looks := true }, kinds := [], alts := [], laidByText := true, laidKinds := [.handle], laidTests := true, laidLooks := .later }
def FnExactDecodeIPUptoCardSaid : Prop := Claim7.holds Tryd.pinned (.plain (OpenSpec.upto fnExactDecodeIPSpec)) fnExactDecodeIPUptoCard
end Rows
end Go.Proofs.YtakoagfeiolkjaaDoor
