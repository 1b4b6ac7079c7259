/-
  DERIVED. GIVEN WITH THE SEED: THE CARDS: each row of YthoinddlnmailaaDoorRows.lean that lists a variable, with what it lists TIED to the program's text (the seventh form; the later family's looks); each row that meets fmt, with fmt's text TOLD by the authors' own Lean function (tested against real Go, not proved from fmt's source: count such statements apart). THE CARD IS WHAT COUNTS. Prove the row's statement (the work); the ties are given (YthoinddlnmailaaDoorTie.lean); close each card by the builder's one call (the guide's Derived/Test/ToyasCard.lean, 'card_holds'). Laid BY PROGRAM, IN A SANDBOX (cutbox-door.mjs). By AI agents, Wed Nov 11 2026. No macro, syntax, notation, axiom, sorry.
-/
import Derived.Test.YthoinddlnmailaaDoorRows
import GoSem.ClaimSeven
namespace Go.Proofs.YthoinddlnmailaaDoor
namespace Rows

/-- THE TIED CARD OF 'laws.FnBurst'. -/
def fnBurstCard : Claim7 := { stood := { row := fnBurstRow, standIns := [], harness := (true, "3f4317236319f20211bc8125dde376a9d956db800d3ec76b7ab492614375b09a"), looks := true }, kinds := [], alts := [], laidByText := true, laidKinds := [.handle], laidTests := true, laidLooks := .later }
def FnBurstCardSaid : Prop := Claim7.holds Tryd.pinned (.plain (OpenSpec.ofChange fnBurstSpec)) fnBurstCard

/-- THE TIED CARD OF 'laws.FnExactDecodeFrame'. -/
def fnExactDecodeFrameCard : Claim7 := { stood := { row := fnExactDecodeFrameRow, standIns := [], harness := (true, "3f4317236319f20211bc8125dde376a9d956db800d3ec76b7ab492614375b09a"), looks := true }, kinds := [], alts := [], laidByText := true, laidKinds := [.handle], laidTests := true, laidLooks := .later }
def FnExactDecodeFrameCardSaid : Prop := Claim7.holds Tryd.pinned (.plain (OpenSpec.ofChange fnExactDecodeFrameSpec)) fnExactDecodeFrameCard

/-- THE TIED CARD OF 'laws.FnExactDecodeArp'. -/
def fnExactDecodeArpCard : Claim7 := { stood := { row := fnExactDecodeArpRow, standIns := [], harness := (true, "3f4317236319f20211bc8125dde376a9d956db800d3ec76b7ab492614375b09a"), looks := true }, kinds := [], alts := [], laidByText := true, laidKinds := [.handle], laidTests := true, laidLooks := .later }
def FnExactDecodeArpCardSaid : Prop := Claim7.holds Tryd.pinned (.plain (OpenSpec.ofChange fnExactDecodeArpSpec)) fnExactDecodeArpCard

/-- THE TIED CARD OF 'laws.FnExactDecodeIP'. -/
def fnExactDecodeIPCard : Claim7 := { stood := { row := fnExactDecodeIPRow, standIns := [], harness := (true, "3f4317236319f20211bc8125dde376a9d956db800d3ec76b7ab492614375b09a"), looks := true }, kinds := [], alts := [], laidByText := true, laidKinds := [.handle], laidTests := true, laidLooks := .later }
def FnExactDecodeIPCardSaid : Prop := Claim7.holds Tryd.pinned (.plain (OpenSpec.ofChange fnExactDecodeIPSpec)) fnExactDecodeIPCard

/-- THE TIED CARD OF 'laws.FnExactEncodeArp'. -/
def fnExactEncodeArpCard : Claim7 := { stood := { row := fnExactEncodeArpRow, standIns := [], harness := (true, "3f4317236319f20211bc8125dde376a9d956db800d3ec76b7ab492614375b09a"), looks := true }, kinds := [], alts := [], laidByText := true, laidKinds := [.handle], laidTests := true, laidLooks := .later }
def FnExactEncodeArpCardSaid : Prop := Claim7.holds Tryd.pinned (.plain (OpenSpec.ofChange fnExactEncodeArpSpec)) fnExactEncodeArpCard

/-- THE TIED CARD OF 'laws.FnExactEncodeFrame'. -/
def fnExactEncodeFrameCard : Claim7 := { stood := { row := fnExactEncodeFrameRow, standIns := [], harness := (true, "3f4317236319f20211bc8125dde376a9d956db800d3ec76b7ab492614375b09a"), looks := true }, kinds := [], alts := [], laidByText := true, laidKinds := [.handle], laidTests := true, laidLooks := .later }
def FnExactEncodeFrameCardSaid : Prop := Claim7.holds Tryd.pinned (.plain (OpenSpec.ofChange fnExactEncodeFrameSpec)) fnExactEncodeFrameCard

/-- THE SECOND FORM's CARD OF 'laws.FnBurst'. -/
def fnBurstUptoCard : Claim7 := { stood := { row := fnBurstUptoRow, standIns := [], harness := (true, "3f4317236319f20211bc8125dde376a9d956db800d3ec76b7ab492614375b09a"), looks := true }, kinds := [], alts := [], laidByText := true, laidKinds := [.handle], laidTests := true, laidLooks := .later }
def FnBurstUptoCardSaid : Prop := Claim7.holds Tryd.pinned (.plain (OpenSpec.upto fnBurstSpec)) fnBurstUptoCard

/-- THE SECOND FORM's CARD OF 'laws.FnExactDecodeFrame'. -/
def fnExactDecodeFrameUptoCard : Claim7 := { stood := { row := fnExactDecodeFrameUptoRow, standIns := [], harness := (true, "3f4317236319f20211bc8125dde376a9d956db800d3ec76b7ab492614375b09a"), looks := true }, kinds := [], alts := [], laidByText := true, laidKinds := [.handle], laidTests := true, laidLooks := .later }
def FnExactDecodeFrameUptoCardSaid : Prop := Claim7.holds Tryd.pinned (.plain (OpenSpec.upto fnExactDecodeFrameSpec)) fnExactDecodeFrameUptoCard

/-- THE SECOND FORM's CARD OF 'laws.FnExactDecodeArp'. -/
def fnExactDecodeArpUptoCard : Claim7 := { stood := { row := fnExactDecodeArpUptoRow, standIns := [], harness := (true, "3f4317236319f20211bc8125dde376a9d956db800d3ec76b7ab492614375b09a"), looks := true }, kinds := [], alts := [], laidByText := true, laidKinds := [.handle], laidTests := true, laidLooks := .later }
def FnExactDecodeArpUptoCardSaid : Prop := Claim7.holds Tryd.pinned (.plain (OpenSpec.upto fnExactDecodeArpSpec)) fnExactDecodeArpUptoCard

/-- THE SECOND FORM's CARD OF 'laws.FnExactDecodeIP'. -/
def fnExactDecodeIPUptoCard : Claim7 := { stood := { row := fnExactDecodeIPUptoRow, standIns := [], harness := (true, "3f4317236319f20211bc8125dde376a9d956db800d3ec76b7ab492614375b09a"), looks := true }, kinds := [], alts := [], laidByText := true, laidKinds := [.handle], laidTests := true, laidLooks := .later }
def FnExactDecodeIPUptoCardSaid : Prop := Claim7.holds Tryd.pinned (.plain (OpenSpec.upto fnExactDecodeIPSpec)) fnExactDecodeIPUptoCard

/-- THE SECOND FORM's CARD OF 'laws.FnExactEncodeArp'. -/
def fnExactEncodeArpUptoCard : Claim7 := { stood := { row := fnExactEncodeArpUptoRow, standIns := [], harness := (true, "3f4317236319f20211bc8125dde376a9d956db800d3ec76b7ab492614375b09a"), looks := true }, kinds := [], alts := [], laidByText := true, laidKinds := [.handle], laidTests := true, laidLooks := .later }
def FnExactEncodeArpUptoCardSaid : Prop := Claim7.holds Tryd.pinned (.plain (OpenSpec.upto fnExactEncodeArpSpec)) fnExactEncodeArpUptoCard

/-- THE SECOND FORM's CARD OF 'laws.FnExactEncodeFrame'. -/
def fnExactEncodeFrameUptoCard : Claim7 := { stood := { row := fnExactEncodeFrameUptoRow, standIns := [], harness := (true, "3f4317236319f20211bc8125dde376a9d956db800d3ec76b7ab492614375b09a"), looks := true }, kinds := [], alts := [], laidByText := true, laidKinds := [.handle], laidTests := true, laidLooks := .later }
def FnExactEncodeFrameUptoCardSaid : Prop := Claim7.holds Tryd.pinned (.plain (OpenSpec.upto fnExactEncodeFrameSpec)) fnExactEncodeFrameUptoCard
end Rows
end Go.Proofs.YthoinddlnmailaaDoor
