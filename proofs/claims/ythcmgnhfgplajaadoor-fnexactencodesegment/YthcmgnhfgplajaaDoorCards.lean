/-
  DERIVED. GIVEN WITH THE SEED: THE CARDS: each row of YthcmgnhfgplajaaDoorRows.lean that lists a variable, with what it lists TIED to the program's text (the seventh form; the later family's looks); each row that meets fmt, with fmt's text TOLD by the authors' own Lean function (tested against real Go, not proved from fmt's source: count such statements apart). THE CARD IS WHAT COUNTS. Prove the row's statement (the work); the ties are given (YthcmgnhfgplajaaDoorTie.lean); close each card by the builder's one call (the guide's Derived/Test/ToyasCard.lean, 'card_holds'). Laid BY PROGRAM, IN A SANDBOX (cutbox-door.mjs). By AI agents, Wed Nov 11 2026. No macro, syntax, notation, axiom, sorry.
-/
import Derived.Test.YthcmgnhfgplajaaDoorRows
import GoSem.ClaimSeven
namespace Go.Proofs.YthcmgnhfgplajaaDoor
namespace Rows

/-- THE TIED CARD OF 'laws.FnExactShowSegment'. -/
def fnExactShowSegmentCard : Claim7 := { stood := { row := fnExactShowSegmentRow, standIns := [], harness := (true, "509e50b4db5ad300501bc70e08725d373d14c3ae37a1bb0211b1a662d259c6e2"), looks := true }, kinds := [], alts := [], laidByText := true, laidKinds := [.data, .data, .data], laidTests := true, laidLooks := .later }
def FnExactShowSegmentCardSaid : Prop := Claim7.holds Tryd.pinned (.plain (OpenSpec.ofChange fnExactShowSegmentSpec)) fnExactShowSegmentCard

/-- THE TIED CARD OF 'laws.FnExactDecodeSegment'. -/
def fnExactDecodeSegmentCard : Claim7 := { stood := { row := fnExactDecodeSegmentRow, standIns := [], harness := (true, "509e50b4db5ad300501bc70e08725d373d14c3ae37a1bb0211b1a662d259c6e2"), looks := true }, kinds := [], alts := [], laidByText := true, laidKinds := [.handle], laidTests := true, laidLooks := .later }
def FnExactDecodeSegmentCardSaid : Prop := Claim7.holds Tryd.pinned (.plain (OpenSpec.ofChange fnExactDecodeSegmentSpec)) fnExactDecodeSegmentCard

/-- THE TIED CARD OF 'laws.FnExactEncodeSegment'. -/
def fnExactEncodeSegmentCard : Claim7 := { stood := { row := fnExactEncodeSegmentRow, standIns := [], harness := (true, "509e50b4db5ad300501bc70e08725d373d14c3ae37a1bb0211b1a662d259c6e2"), looks := true }, kinds := [], alts := [], laidByText := true, laidKinds := [.handle], laidTests := true, laidLooks := .later }
def FnExactEncodeSegmentCardSaid : Prop := Claim7.holds Tryd.pinned (.plain (OpenSpec.ofChange fnExactEncodeSegmentSpec)) fnExactEncodeSegmentCard

/-- THE TIED CARD OF 'laws.FnExactReadSegment'. -/
def fnExactReadSegmentCard : Claim7 := { stood := { row := fnExactReadSegmentRow, standIns := [], harness := (true, "509e50b4db5ad300501bc70e08725d373d14c3ae37a1bb0211b1a662d259c6e2"), looks := true }, kinds := [], alts := [], laidByText := true, laidKinds := [.data, .data, .data, .data, .pinned], laidTests := true, laidLooks := .later }
def FnExactReadSegmentCardSaid : Prop := Claim7.holds Tryd.pinned (.plain (OpenSpec.ofChange fnExactReadSegmentSpec)) fnExactReadSegmentCard

/-- THE SECOND FORM's CARD OF 'laws.FnExactShowSegment'. -/
def fnExactShowSegmentUptoCard : Claim7 := { stood := { row := fnExactShowSegmentUptoRow, standIns := [], harness := (true, "509e50b4db5ad300501bc70e08725d373d14c3ae37a1bb0211b1a662d259c6e2"), looks := true }, kinds := [], alts := [], laidByText := true, laidKinds := [.data, .data, .data], laidTests := true, laidLooks := .later }
def FnExactShowSegmentUptoCardSaid : Prop := Claim7.holds Tryd.pinned (.plain (OpenSpec.upto fnExactShowSegmentSpec)) fnExactShowSegmentUptoCard

/-- THE SECOND FORM's CARD OF 'laws.FnExactDecodeSegment'. -/
def fnExactDecodeSegmentUptoCard : Claim7 := { stood := { row := fnExactDecodeSegmentUptoRow, standIns := [], harness := (true, "509e50b4db5ad300501bc70e08725d373d14c3ae37a1bb0211b1a662d259c6e2"), looks := true }, kinds := [], alts := [], laidByText := true, laidKinds := [.handle], laidTests := true, laidLooks := .later }
def FnExactDecodeSegmentUptoCardSaid : Prop := Claim7.holds Tryd.pinned (.plain (OpenSpec.upto fnExactDecodeSegmentSpec)) fnExactDecodeSegmentUptoCard

/-- THE SECOND FORM's CARD OF 'laws.FnExactEncodeSegment'. -/
def fnExactEncodeSegmentUptoCard : Claim7 := { stood := { row := fnExactEncodeSegmentUptoRow, standIns := [], harness := (true, "509e50b4db5ad300501bc70e08725d373d14c3ae37a1bb0211b1a662d259c6e2"), looks := true }, kinds := [], alts := [], laidByText := true, laidKinds := [.handle], laidTests := true, laidLooks := .later }
def FnExactEncodeSegmentUptoCardSaid : Prop := Claim7.holds Tryd.pinned (.plain (OpenSpec.upto fnExactEncodeSegmentSpec)) fnExactEncodeSegmentUptoCard

/-- THE SECOND FORM's CARD OF 'laws.FnExactReadSegment'. -/
def fnExactReadSegmentUptoCard : Claim7 := { stood := { row := fnExactReadSegmentUptoRow, standIns := [], harness := (true, "509e50b4db5ad300501bc70e08725d373d14c3ae37a1bb0211b1a662d259c6e2"), looks := true }, kinds := [], alts := [], laidByText := true, laidKinds := [.data, .data, .data, .data, .pinned], laidTests := true, laidLooks := .later }
def FnExactReadSegmentUptoCardSaid : Prop := Claim7.holds Tryd.pinned (.plain (OpenSpec.upto fnExactReadSegmentSpec)) fnExactReadSegmentUptoCard
end Rows
end Go.Proofs.YthcmgnhfgplajaaDoor
