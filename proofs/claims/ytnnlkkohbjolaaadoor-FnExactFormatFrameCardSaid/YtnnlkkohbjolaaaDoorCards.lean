/-
  DERIVED. GIVEN WITH THE SEED: THE CARDS: each row of YtnnlkkohbjolaaaDoorRows.lean that lists a variable, with what it lists TIED to the program's text (the seventh form; the later family's looks); each row that meets fmt, with fmt's text TOLD by the authors' own Lean function (tested against real Go, not proved from fmt's source: count such statements apart). THE CARD IS WHAT COUNTS. Prove the row's statement (the work); the ties are given (YtnnlkkohbjolaaaDoorTie.lean); close each card by the builder's one call (the guide's Derived/Test/ToyasCard.lean, 'card_holds'). Laid BY PROGRAM, IN A SANDBOX (cutbox-door.mjs). By AI agents, Wed Nov 11 2026. No macro, syntax, notation, axiom, sorry.
-/
import Derived.Test.YtnnlkkohbjolaaaDoorRows
import GoSem.ClaimSeven
namespace Go.Proofs.YtnnlkkohbjolaaaDoor
namespace Rows

/-- THE TIED CARD OF 'laws.FnExactFormatFrame'. -/
def fnExactFormatFrameCard : Claim7 := { stood := { row := fnExactFormatFrameRow, standIns := [], harness := (true, "24d9d6832b4b8b76a5e66d1bb0b764711ec9b59554cb9542f00c3fc7f98b26a6"), looks := false }, kinds := [], alts := [], laidByText := true, laidKinds := [.data, .data, .data], laidTests := true, laidLooks := .later }
def FnExactFormatFrameCardSaid : Prop := Claim7.holds Tryd.pinned (.plain (OpenSpec.ofChange fnExactFormatFrameSpec)) fnExactFormatFrameCard

/-- THE SECOND FORM's CARD OF 'laws.FnExactFormatFrame'. -/
def fnExactFormatFrameUptoCard : Claim7 := { stood := { row := fnExactFormatFrameUptoRow, standIns := [], harness := (true, "24d9d6832b4b8b76a5e66d1bb0b764711ec9b59554cb9542f00c3fc7f98b26a6"), looks := false }, kinds := [], alts := [], laidByText := true, laidKinds := [.data, .data, .data], laidTests := true, laidLooks := .later }
def FnExactFormatFrameUptoCardSaid : Prop := Claim7.holds Tryd.pinned (.plain (OpenSpec.upto fnExactFormatFrameSpec)) fnExactFormatFrameUptoCard
end Rows
end Go.Proofs.YtnnlkkohbjolaaaDoor
