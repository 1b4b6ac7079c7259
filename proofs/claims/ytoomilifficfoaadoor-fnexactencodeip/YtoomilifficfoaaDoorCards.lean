/-
  DERIVED. GIVEN WITH THE SEED: THE CARDS: each row of YtoomilifficfoaaDoorRows.lean that lists a variable, with what it lists TIED to the program's text (the seventh form; the later family's looks); each row that meets fmt, with fmt's text TOLD by the authors' own Lean function (tested against real Go, not proved from fmt's source: count such statements apart). THE CARD IS WHAT COUNTS. Prove the row's statement (the work); the ties are given (YtoomilifficfoaaDoorTie.lean); close each card by the builder's one call (the guide's Derived/Test/ToyasCard.lean, 'card_holds'). Laid BY PROGRAM, IN A SANDBOX (cutbox-door.mjs). By AI agents, Wed Nov 11 2026. No macro, syntax, notation, axiom, sorry.
-/
import Derived.Test.YtoomilifficfoaaDoorRows
import GoSem.ClaimSeven
namespace Go.Proofs.YtoomilifficfoaaDoor
namespace Rows

/-- THE TIED CARD OF 'laws.FnExactDecodeIP'. -/
def fnExactDecodeIPCard : Claim7 := { stood := { row := fnExactDecodeIPRow, standIns := [], harness := (true, "21b3bf607e19ce17696db18ef5960065fd9ae1a405bca63667a5c953b91da8a2"), looks := true }, kinds := [], alts := [], laidByText := true, laidKinds := [.handle], laidTests := true, laidLooks := .later }
def FnExactDecodeIPCardSaid : Prop := Claim7.holds Tryd.pinned (.plain (OpenSpec.ofChange fnExactDecodeIPSpec)) fnExactDecodeIPCard

/-- THE TIED CARD OF 'laws.FnExactEncodeIP'. -/
def fnExactEncodeIPCard : Claim7 := { stood := { row := fnExactEncodeIPRow, standIns := [], harness := (true, "21b3bf607e19ce17696db18ef5960065fd9ae1a405bca63667a5c953b91da8a2"), looks := true }, kinds := [], alts := [], laidByText := true, laidKinds := [.handle], laidTests := true, laidLooks := .later }
def FnExactEncodeIPCardSaid : Prop := Claim7.holds Tryd.pinned (.plain (OpenSpec.ofChange fnExactEncodeIPSpec)) fnExactEncodeIPCard

/-- THE SECOND FORM's CARD OF 'laws.FnExactDecodeIP'. -/
def fnExactDecodeIPUptoCard : Claim7 := { stood := { row := fnExactDecodeIPUptoRow, standIns := [], harness := (true, "21b3bf607e19ce17696db18ef5960065fd9ae1a405bca63667a5c953b91da8a2"), looks := true }, kinds := [], alts := [], laidByText := true, laidKinds := [.handle], laidTests := true, laidLooks := .later }
def FnExactDecodeIPUptoCardSaid : Prop := Claim7.holds Tryd.pinned (.plain (OpenSpec.upto fnExactDecodeIPSpec)) fnExactDecodeIPUptoCard

/-- THE SECOND FORM's CARD OF 'laws.FnExactEncodeIP'. -/
def fnExactEncodeIPUptoCard : Claim7 := { stood := { row := fnExactEncodeIPUptoRow, standIns := [], harness := (true, "21b3bf607e19ce17696db18ef5960065fd9ae1a405bca63667a5c953b91da8a2"), looks := true }, kinds := [], alts := [], laidByText := true, laidKinds := [.handle], laidTests := true, laidLooks := .later }
def FnExactEncodeIPUptoCardSaid : Prop := Claim7.holds Tryd.pinned (.plain (OpenSpec.upto fnExactEncodeIPSpec)) fnExactEncodeIPUptoCard
end Rows
end Go.Proofs.YtoomilifficfoaaDoor
