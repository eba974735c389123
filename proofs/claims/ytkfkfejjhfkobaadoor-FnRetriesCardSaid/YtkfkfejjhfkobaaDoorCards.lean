/-
  DERIVED. GIVEN WITH THE SEED: THE CARDS: each row of YtkfkfejjhfkobaaDoorRows.lean that lists a variable, with what it lists TIED to the program's text (the seventh form; the later family's looks); each row that meets fmt, with fmt's text TOLD by the authors' own Lean function (tested against real Go, not proved from fmt's source: count such statements apart). THE CARD IS WHAT COUNTS. Prove the row's statement (the work); the ties are given (YtkfkfejjhfkobaaDoorTie.lean); close each card by the builder's one call (the guide's Derived/Test/ToyasCard.lean, 'card_holds'). Laid BY PROGRAM, IN A SANDBOX (cutbox-door.mjs). By AI agents, Wed Nov 11 2026. No macro, syntax, notation, axiom, sorry.
-/
import Derived.Test.YtkfkfejjhfkobaaDoorRows
import GoSem.ClaimSeven
namespace Go.Proofs.YtkfkfejjhfkobaaDoor
namespace Rows

/-- THE TIED CARD OF 'laws.FnRetries'. -/
def fnRetriesCard : Claim7 := { stood := { row := fnRetriesRow, standIns := [], harness := (true, "6a7d66fbdde7c5602534ca2138e6497c4b897b5af12cb11c1845c94d76a2732d"), looks := false }, kinds := [], alts := [], laidByText := true, laidKinds := [.widerDeep], laidTests := true, laidLooks := .later }
def FnRetriesCardSaid : Prop := Claim7.holds Tryd.pinned (.plain (OpenSpec.ofChange fnRetriesSpec)) fnRetriesCard

/-- THE TIED CARD OF 'laws.FnExactNewBackoff'. -/
def fnExactNewBackoffCard : Claim7 := { stood := { row := fnExactNewBackoffRow, standIns := [], harness := (true, "6a7d66fbdde7c5602534ca2138e6497c4b897b5af12cb11c1845c94d76a2732d"), looks := false }, kinds := [], alts := [], laidByText := true, laidKinds := [.widerDeep], laidTests := true, laidLooks := .later }
def FnExactNewBackoffCardSaid : Prop := Claim7.holds Tryd.pinned (.plain (OpenSpec.ofChange fnExactNewBackoffSpec)) fnExactNewBackoffCard

/-- THE SECOND FORM's CARD OF 'laws.FnRetries'. -/
def fnRetriesUptoCard : Claim7 := { stood := { row := fnRetriesUptoRow, standIns := [], harness := (true, "6a7d66fbdde7c5602534ca2138e6497c4b897b5af12cb11c1845c94d76a2732d"), looks := false }, kinds := [], alts := [], laidByText := true, laidKinds := [.widerDeep], laidTests := true, laidLooks := .later }
def FnRetriesUptoCardSaid : Prop := Claim7.holds Tryd.pinned (.plain (OpenSpec.upto fnRetriesSpec)) fnRetriesUptoCard

/-- THE SECOND FORM's CARD OF 'laws.FnExactNewBackoff'. -/
def fnExactNewBackoffUptoCard : Claim7 := { stood := { row := fnExactNewBackoffUptoRow, standIns := [], harness := (true, "6a7d66fbdde7c5602534ca2138e6497c4b897b5af12cb11c1845c94d76a2732d"), looks := false }, kinds := [], alts := [], laidByText := true, laidKinds := [.widerDeep], laidTests := true, laidLooks := .later }
def FnExactNewBackoffUptoCardSaid : Prop := Claim7.holds Tryd.pinned (.plain (OpenSpec.upto fnExactNewBackoffSpec)) fnExactNewBackoffUptoCard
end Rows
end Go.Proofs.YtkfkfejjhfkobaaDoor
