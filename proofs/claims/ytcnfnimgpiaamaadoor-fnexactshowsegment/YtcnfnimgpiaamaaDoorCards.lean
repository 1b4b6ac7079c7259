/-
  DERIVED. GIVEN WITH THE SEED: THE CARDS: each row of YtcnfnimgpiaamaaDoorRows.lean that lists a variable, with what it lists TIED to the program's text (the seventh form; the later family's looks); each row that meets fmt, with fmt's text TOLD by the authors' own Lean function (tested against real Go, not proved from fmt's source: count such statements apart). THE CARD IS WHAT COUNTS. Prove the row's statement (the work); the ties are given (YtcnfnimgpiaamaaDoorTie.lean); close each card by the builder's one call (the guide's Derived/Test/ToyasCard.lean, 'card_holds'). Laid BY PROGRAM, IN A SANDBOX (cutbox-door.mjs). By AI agents, Wed Nov 11 2026. No macro, syntax, notation, axiom, sorry.
-/
import Derived.Test.YtcnfnimgpiaamaaDoorRows
import GoSem.ClaimSeven
namespace Go.Proofs.YtcnfnimgpiaamaaDoor
namespace Rows

/-- THE TIED CARD OF 'laws.FnExactShowSegment'. -/
def fnExactShowSegmentCard : Claim7 := { stood := { row := fnExactShowSegmentRow, standIns := [], harness := (true, "9b544b3bb56ff99d4cd6fe259a24b6a8b79849a0e346e302e11c715cc1043384"), looks := true }, kinds := [], alts := [], laidByText := true, laidKinds := [.data, .data, .data], laidTests := true, laidLooks := .later }
def FnExactShowSegmentCardSaid : Prop := Claim7.holds Tryd.pinned (.plain (OpenSpec.ofChange fnExactShowSegmentSpec)) fnExactShowSegmentCard

/-- THE TIED CARD OF 'laws.FnExactDecodeSegment'. -/
def fnExactDecodeSegmentCard : Claim7 := { stood := { row := fnExactDecodeSegmentRow, standIns := [], harness := (true, "9b544b3bb56ff99d4cd6fe259a24b6a8b79849a0e346e302e11c715cc1043384"), looks := true }, kinds := [], alts := [], laidByText := true, laidKinds := [.handle], laidTests := true, laidLooks := .later }
def FnExactDecodeSegmentCardSaid : Prop := Claim7.holds Tryd.pinned (.plain (OpenSpec.ofChange fnExactDecodeSegmentSpec)) fnExactDecodeSegmentCard

/-- THE TIED CARD OF 'laws.FnExactReadSegment'. -/
def fnExactReadSegmentCard : Claim7 := { stood := { row := fnExactReadSegmentRow, standIns := [], harness := (true, "9b544b3bb56ff99d4cd6fe259a24b6a8b79849a0e346e302e11c715cc1043384"), looks := true }, kinds := [], alts := [], laidByText := true, laidKinds := [.data, .data, .data, .data, .pinned], laidTests := true, laidLooks := .later }
def FnExactReadSegmentCardSaid : Prop := Claim7.holds Tryd.pinned (.plain (OpenSpec.ofChange fnExactReadSegmentSpec)) fnExactReadSegmentCard

/-- THE TIED CARD OF 'laws.FnSegmentText'. -/
def fnSegmentTextCard : Claim7 := { stood := { row := fnSegmentTextRow, standIns := [], harness := (true, "9b544b3bb56ff99d4cd6fe259a24b6a8b79849a0e346e302e11c715cc1043384"), looks := true }, kinds := [], alts := [], laidByText := true, laidKinds := [.data, .data, .data, .data, .pinned], laidTests := true, laidLooks := .later }
def FnSegmentTextCardSaid : Prop := Claim7.holds Tryd.pinned (.plain (OpenSpec.ofChange fnSegmentTextSpec)) fnSegmentTextCard

/-- THE SECOND FORM's CARD OF 'laws.FnExactShowSegment'. -/
def fnExactShowSegmentUptoCard : Claim7 := { stood := { row := fnExactShowSegmentUptoRow, standIns := [], harness := (true, "9b544b3bb56ff99d4cd6fe259a24b6a8b79849a0e346e302e11c715cc1043384"), looks := true }, kinds := [], alts := [], laidByText := true, laidKinds := [.data, .data, .data], laidTests := true, laidLooks := .later }
def FnExactShowSegmentUptoCardSaid : Prop := Claim7.holds Tryd.pinned (.plain (OpenSpec.upto fnExactShowSegmentSpec)) fnExactShowSegmentUptoCard

/-- THE SECOND FORM's CARD OF 'laws.FnExactDecodeSegment'. -/
def fnExactDecodeSegmentUptoCard : Claim7 := { stood := { row := fnExactDecodeSegmentUptoRow, standIns := [], harness := (true, "9b544b3bb56ff99d4cd6fe259a24b6a8b79849a0e346e302e11c715cc1043384"), looks := true }, kinds := [], alts := [], laidByText := true, laidKinds := [.handle], laidTests := true, laidLooks := .later }
def FnExactDecodeSegmentUptoCardSaid : Prop := Claim7.holds Tryd.pinned (.plain (OpenSpec.upto fnExactDecodeSegmentSpec)) fnExactDecodeSegmentUptoCard

/-- THE SECOND FORM's CARD OF 'laws.FnExactReadSegment'. -/
def fnExactReadSegmentUptoCard : Claim7 := { stood := { row := fnExactReadSegmentUptoRow, standIns := [], harness := (true, "9b544b3bb56ff99d4cd6fe259a24b6a8b79849a0e346e302e11c715cc1043384"), looks := true }, kinds := [], alts := [], laidByText := true, laidKinds := [.data, .data, .data, .data, .pinned], laidTests := true, laidLooks := .later }
def FnExactReadSegmentUptoCardSaid : Prop := Claim7.holds Tryd.pinned (.plain (OpenSpec.upto fnExactReadSegmentSpec)) fnExactReadSegmentUptoCard

/-- THE SECOND FORM's CARD OF 'laws.FnSegmentText'. -/
def fnSegmentTextUptoCard : Claim7 := { stood := { row := fnSegmentTextUptoRow, standIns := [], harness := (true, "9b544b3bb56ff99d4cd6fe259a24b6a8b79849a0e346e302e11c715cc1043384"), looks := true }, kinds := [], alts := [], laidByText := true, laidKinds := [.data, .data, .data, .data, .pinned], laidTests := true, laidLooks := .later }
def FnSegmentTextUptoCardSaid : Prop := Claim7.holds Tryd.pinned (.plain (OpenSpec.upto fnSegmentTextSpec)) fnSegmentTextUptoCard
end Rows
end Go.Proofs.YtcnfnimgpiaamaaDoor
