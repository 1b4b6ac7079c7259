/-
  DERIVED. GIVEN WITH THE SEED: THE CARDS: each row of YtjojeplffefnpaaDoorRows.lean that lists a variable, with what it lists TIED to the program's text (the seventh form; the later family's looks); each row that meets fmt, with fmt's text TOLD by the authors' own Lean function (tested against real Go, not proved from fmt's source: count such statements apart). THE CARD IS WHAT COUNTS. Prove the row's statement (the work); the ties are given (YtjojeplffefnpaaDoorTie.lean); close each card by the builder's one call (the guide's Derived/Test/ToyasCard.lean, 'card_holds'). Laid BY PROGRAM, IN A SANDBOX (cutbox-door.mjs). By AI agents, Wed Nov 11 2026. No macro, syntax, notation, axiom, sorry.
-/
import Derived.Test.YtjojeplffefnpaaDoorRows
import GoSem.ClaimSeven
namespace Go.Proofs.YtjojeplffefnpaaDoor
namespace Rows

/-- THE TIED CARD OF 'laws.FnExactShowRules'. -/
def fnExactShowRulesCard : Claim7 := { stood := { row := fnExactShowRulesRow, standIns := [], harness := (true, "72d88e498711140db84791334ae43aae2e8799a1b4e3e49d8a469290c54fdb3b"), looks := true }, kinds := [], alts := [], laidByText := true, laidKinds := [.data, .data, .data], laidTests := true, laidLooks := .later }
def FnExactShowRulesCardSaid : Prop := Claim7.holds Tryd.pinned (.plain (OpenSpec.ofChange fnExactShowRulesSpec)) fnExactShowRulesCard

/-- THE TIED CARD OF 'laws.FnExactComplain'. -/
def fnExactComplainCard : Claim7 := { stood := { row := fnExactComplainRow, standIns := [], harness := (true, "72d88e498711140db84791334ae43aae2e8799a1b4e3e49d8a469290c54fdb3b"), looks := true }, kinds := [], alts := [], laidByText := true, laidKinds := [.handle], laidTests := true, laidLooks := .later }
def FnExactComplainCardSaid : Prop := Claim7.holds Tryd.pinned (.plain (OpenSpec.ofChange fnExactComplainSpec)) fnExactComplainCard

/-- THE SECOND FORM's CARD OF 'laws.FnExactShowRules'. -/
def fnExactShowRulesUptoCard : Claim7 := { stood := { row := fnExactShowRulesUptoRow, standIns := [], harness := (true, "72d88e498711140db84791334ae43aae2e8799a1b4e3e49d8a469290c54fdb3b"), looks := true }, kinds := [], alts := [], laidByText := true, laidKinds := [.data, .data, .data], laidTests := true, laidLooks := .later }
def FnExactShowRulesUptoCardSaid : Prop := Claim7.holds Tryd.pinned (.plain (OpenSpec.upto fnExactShowRulesSpec)) fnExactShowRulesUptoCard

/-- THE SECOND FORM's CARD OF 'laws.FnExactComplain'. -/
def fnExactComplainUptoCard : Claim7 := { stood := { row := fnExactComplainUptoRow, standIns := [], harness := (true, "72d88e498711140db84791334ae43aae2e8799a1b4e3e49d8a469290c54fdb3b"), looks := true }, kinds := [], alts := [], laidByText := true, laidKinds := [.handle], laidTests := true, laidLooks := .later }
def FnExactComplainUptoCardSaid : Prop := Claim7.holds Tryd.pinned (.plain (OpenSpec.upto fnExactComplainSpec)) fnExactComplainUptoCard
end Rows
end Go.Proofs.YtjojeplffefnpaaDoor
