/-
  DERIVED. GIVEN WITH THE SEED: THE CARDS: each row of YthgobaohlcninaaDoorRows.lean that lists a variable, with what it lists TIED to the program's text (the seventh form; the later family's looks); each row that meets fmt, with fmt's text TOLD by the authors' own Lean function (tested against real Go, not proved from fmt's source: count such statements apart). THE CARD IS WHAT COUNTS. Prove the row's statement (the work); the ties are given (YthgobaohlcninaaDoorTie.lean); close each card by the builder's one call (the guide's Derived/Test/ToyasCard.lean, 'card_holds'). Laid BY PROGRAM, IN A SANDBOX (cutbox-door.mjs). By AI agents, Wed Nov 11 2026. No macro, syntax, notation, axiom, sorry.
-/
import Derived.Test.YthgobaohlcninaaDoorRows
import GoSem.ClaimSeven
namespace Go.Proofs.YthgobaohlcninaaDoor
namespace Rows

/-- THE TIED CARD OF 'laws.FnAccess'. -/
def fnAccessCard : Claim7 := { stood := { row := fnAccessRow, standIns := [], harness := (true, "e545c82a36193d4eac343850e09f07b4fc9fc0e583b4544e5f1cb828646a0e37"), looks := false }, kinds := [], alts := [], laidByText := true, laidKinds := [.widerDeep], laidTests := true, laidLooks := .later }
def FnAccessCardSaid : Prop := Claim7.holds Tryd.pinned (.plain (OpenSpec.ofChange fnAccessSpec)) fnAccessCard

/-- THE TIED CARD OF 'laws.FnExactParamsFor'. -/
def fnExactParamsForCard : Claim7 := { stood := { row := fnExactParamsForRow, standIns := [], harness := (true, "e545c82a36193d4eac343850e09f07b4fc9fc0e583b4544e5f1cb828646a0e37"), looks := false }, kinds := [], alts := [], laidByText := true, laidKinds := [.widerDeep], laidTests := true, laidLooks := .later }
def FnExactParamsForCardSaid : Prop := Claim7.holds Tryd.pinned (.plain (OpenSpec.ofChange fnExactParamsForSpec)) fnExactParamsForCard

/-- THE SECOND FORM's CARD OF 'laws.FnAccess'. -/
def fnAccessUptoCard : Claim7 := { stood := { row := fnAccessUptoRow, standIns := [], harness := (true, "e545c82a36193d4eac343850e09f07b4fc9fc0e583b4544e5f1cb828646a0e37"), looks := false }, kinds := [], alts := [], laidByText := true, laidKinds := [.widerDeep], laidTests := true, laidLooks := .later }
def FnAccessUptoCardSaid : Prop := Claim7.holds Tryd.pinned (.plain (OpenSpec.upto fnAccessSpec)) fnAccessUptoCard

/-- THE SECOND FORM's CARD OF 'laws.FnExactParamsFor'. -/
def fnExactParamsForUptoCard : Claim7 := { stood := { row := fnExactParamsForUptoRow, standIns := [], harness := (true, "e545c82a36193d4eac343850e09f07b4fc9fc0e583b4544e5f1cb828646a0e37"), looks := false }, kinds := [], alts := [], laidByText := true, laidKinds := [.widerDeep], laidTests := true, laidLooks := .later }
def FnExactParamsForUptoCardSaid : Prop := Claim7.holds Tryd.pinned (.plain (OpenSpec.upto fnExactParamsForSpec)) fnExactParamsForUptoCard
end Rows
end Go.Proofs.YthgobaohlcninaaDoor
