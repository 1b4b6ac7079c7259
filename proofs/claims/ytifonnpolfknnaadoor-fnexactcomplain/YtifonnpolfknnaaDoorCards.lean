/-
  DERIVED. GIVEN WITH THE SEED: THE CARDS: each row of YtifonnpolfknnaaDoorRows.lean that lists a variable, with what it lists TIED to the program's text (the seventh form; the later family's looks); each row that meets fmt, with fmt's text TOLD by the authors' own Lean function (tested against real Go, not proved from fmt's source: count such statements apart). THE CARD IS WHAT COUNTS. Prove the row's statement (the work); the ties are given (YtifonnpolfknnaaDoorTie.lean); close each card by the builder's one call (the guide's Derived/Test/ToyasCard.lean, 'card_holds'). Laid BY PROGRAM, IN A SANDBOX (cutbox-door.mjs). By AI agents, Wed Nov 11 2026. No macro, syntax, notation, axiom, sorry.
-/
import Derived.Test.YtifonnpolfknnaaDoorRows
import GoSem.ClaimSeven
namespace Go.Proofs.YtifonnpolfknnaaDoor
namespace Rows

/-- THE TIED CARD OF 'laws.FnExactReadQuote'. -/
def fnExactReadQuoteCard : Claim7 := { stood := { row := fnExactReadQuoteRow, standIns := [], harness := (true, "100da5843c442583c660bfd239a6813d3c9d0707b44927024db9520c61f1bd3b"), looks := true }, kinds := [], alts := [], laidByText := true, laidKinds := [.handle], laidTests := true, laidLooks := .later }
def FnExactReadQuoteCardSaid : Prop := Claim7.holds Tryd.pinned (.plain (OpenSpec.ofChange fnExactReadQuoteSpec)) fnExactReadQuoteCard

/-- THE TIED CARD OF 'laws.FnExactDecodeIcmp'. -/
def fnExactDecodeIcmpCard : Claim7 := { stood := { row := fnExactDecodeIcmpRow, standIns := [], harness := (true, "100da5843c442583c660bfd239a6813d3c9d0707b44927024db9520c61f1bd3b"), looks := true }, kinds := [], alts := [], laidByText := true, laidKinds := [.handle], laidTests := true, laidLooks := .later }
def FnExactDecodeIcmpCardSaid : Prop := Claim7.holds Tryd.pinned (.plain (OpenSpec.ofChange fnExactDecodeIcmpSpec)) fnExactDecodeIcmpCard

/-- THE TIED CARD OF 'laws.FnExactEncodeIcmp'. -/
def fnExactEncodeIcmpCard : Claim7 := { stood := { row := fnExactEncodeIcmpRow, standIns := [], harness := (true, "100da5843c442583c660bfd239a6813d3c9d0707b44927024db9520c61f1bd3b"), looks := true }, kinds := [], alts := [], laidByText := true, laidKinds := [.handle], laidTests := true, laidLooks := .later }
def FnExactEncodeIcmpCardSaid : Prop := Claim7.holds Tryd.pinned (.plain (OpenSpec.ofChange fnExactEncodeIcmpSpec)) fnExactEncodeIcmpCard

/-- THE TIED CARD OF 'laws.FnExactComplain'. -/
def fnExactComplainCard : Claim7 := { stood := { row := fnExactComplainRow, standIns := [], harness := (true, "100da5843c442583c660bfd239a6813d3c9d0707b44927024db9520c61f1bd3b"), looks := true }, kinds := [], alts := [], laidByText := true, laidKinds := [.handle], laidTests := true, laidLooks := .later }
def FnExactComplainCardSaid : Prop := Claim7.holds Tryd.pinned (.plain (OpenSpec.ofChange fnExactComplainSpec)) fnExactComplainCard

/-- THE SECOND FORM's CARD OF 'laws.FnExactReadQuote'. -/
def fnExactReadQuoteUptoCard : Claim7 := { stood := { row := fnExactReadQuoteUptoRow, standIns := [], harness := (true, "100da5843c442583c660bfd239a6813d3c9d0707b44927024db9520c61f1bd3b"), looks := true }, kinds := [], alts := [], laidByText := true, laidKinds := [.handle], laidTests := true, laidLooks := .later }
def FnExactReadQuoteUptoCardSaid : Prop := Claim7.holds Tryd.pinned (.plain (OpenSpec.upto fnExactReadQuoteSpec)) fnExactReadQuoteUptoCard

/-- THE SECOND FORM's CARD OF 'laws.FnExactDecodeIcmp'. -/
def fnExactDecodeIcmpUptoCard : Claim7 := { stood := { row := fnExactDecodeIcmpUptoRow, standIns := [], harness := (true, "100da5843c442583c660bfd239a6813d3c9d0707b44927024db9520c61f1bd3b"), looks := true }, kinds := [], alts := [], laidByText := true, laidKinds := [.handle], laidTests := true, laidLooks := .later }
def FnExactDecodeIcmpUptoCardSaid : Prop := Claim7.holds Tryd.pinned (.plain (OpenSpec.upto fnExactDecodeIcmpSpec)) fnExactDecodeIcmpUptoCard

/-- THE SECOND FORM's CARD OF 'laws.FnExactEncodeIcmp'. -/
def fnExactEncodeIcmpUptoCard : Claim7 := { stood := { row := fnExactEncodeIcmpUptoRow, standIns := [], harness := (true, "100da5843c442583c660bfd239a6813d3c9d0707b44927024db9520c61f1bd3b"), looks := true }, kinds := [], alts := [], laidByText := true, laidKinds := [.handle], laidTests := true, laidLooks := .later }
def FnExactEncodeIcmpUptoCardSaid : Prop := Claim7.holds Tryd.pinned (.plain (OpenSpec.upto fnExactEncodeIcmpSpec)) fnExactEncodeIcmpUptoCard

/-- THE SECOND FORM's CARD OF 'laws.FnExactComplain'. -/
def fnExactComplainUptoCard : Claim7 := { stood := { row := fnExactComplainUptoRow, standIns := [], harness := (true, "100da5843c442583c660bfd239a6813d3c9d0707b44927024db9520c61f1bd3b"), looks := true }, kinds := [], alts := [], laidByText := true, laidKinds := [.handle], laidTests := true, laidLooks := .later }
def FnExactComplainUptoCardSaid : Prop := Claim7.holds Tryd.pinned (.plain (OpenSpec.upto fnExactComplainSpec)) fnExactComplainUptoCard
end Rows
end Go.Proofs.YtifonnpolfknnaaDoor
