/-
  DERIVED. GIVEN WITH THE SEED: THE CARDS: each row of YtdelpepepbkjmaaGreatDoorRows.lean that lists a variable, with what it lists TIED to the program's text (the seventh form; the later family's looks); each row that meets fmt, with fmt's text TOLD by the authors' own Lean function (tested against real Go, not proved from fmt's source: count such statements apart). THE CARD IS WHAT COUNTS. Prove the row's statement (the work); the ties are given (YtdelpepepbkjmaaGreatDoorTie.lean); close each card by the builder's one call (the guide's Derived/Test/ToyasCard.lean, 'card_holds'). Laid BY PROGRAM, IN A SANDBOX (cutbox-door.mjs). By AI agents, Wed Nov 11 2026. No macro, syntax, notation, axiom, sorry.
-/
import Derived.Test.YtdelpepepbkjmaaGreatDoorRows
import GoSem.ClaimSeven
namespace Go.Proofs.YtdelpepepbkjmaaGreatDoor
namespace Rows

/-- THE TIED CARD OF 'laws.FnPhysicalFrames'. -/
def fnPhysicalFramesCard : Claim7 := { stood := { row := fnPhysicalFramesRow, standIns := [], harness := (true, "0c65db6bf3c0f0ad6af298dcaabbcd38965101cdd27505b7d0c886774402ac53"), looks := true }, kinds := [], alts := [], laidByText := true, laidKinds := [.handle], laidTests := true, laidLooks := .later }
def FnPhysicalFramesCardSaid : Prop := Claim7.holds Tryz.pinned (.plain (OpenSpec.ofChange fnPhysicalFramesSpec)) fnPhysicalFramesCard

/-- THE TIED CARD OF 'laws.FnFrameErrors'. -/
def fnFrameErrorsCard : Claim7 := { stood := { row := fnFrameErrorsRow, standIns := [], harness := (true, "0c65db6bf3c0f0ad6af298dcaabbcd38965101cdd27505b7d0c886774402ac53"), looks := true }, kinds := [], alts := [], laidByText := true, laidKinds := [.handle], laidTests := true, laidLooks := .later }
def FnFrameErrorsCardSaid : Prop := Claim7.holds Tryz.pinned (.plain (OpenSpec.ofChange fnFrameErrorsSpec)) fnFrameErrorsCard

/-- THE TIED CARD OF 'laws.FnExactReceiveFrame'. -/
def fnExactReceiveFrameCard : Claim7 := { stood := { row := fnExactReceiveFrameRow, standIns := [], harness := (true, "0c65db6bf3c0f0ad6af298dcaabbcd38965101cdd27505b7d0c886774402ac53"), looks := true }, kinds := [], alts := [], laidByText := true, laidKinds := [.handle], laidTests := true, laidLooks := .later }
def FnExactReceiveFrameCardSaid : Prop := Claim7.holds Tryz.pinned (.plain (OpenSpec.ofChange fnExactReceiveFrameSpec)) fnExactReceiveFrameCard

/-- THE SECOND FORM's CARD OF 'laws.FnPhysicalFrames'. -/
def fnPhysicalFramesUptoCard : Claim7 := { stood := { row := fnPhysicalFramesUptoRow, standIns := [], harness := (true, "0c65db6bf3c0f0ad6af298dcaabbcd38965101cdd27505b7d0c886774402ac53"), looks := true }, kinds := [], alts := [], laidByText := true, laidKinds := [.handle], laidTests := true, laidLooks := .later }
def FnPhysicalFramesUptoCardSaid : Prop := Claim7.holds Tryz.pinned (.plain (OpenSpec.upto fnPhysicalFramesSpec)) fnPhysicalFramesUptoCard

/-- THE SECOND FORM's CARD OF 'laws.FnFrameErrors'. -/
def fnFrameErrorsUptoCard : Claim7 := { stood := { row := fnFrameErrorsUptoRow, standIns := [], harness := (true, "0c65db6bf3c0f0ad6af298dcaabbcd38965101cdd27505b7d0c886774402ac53"), looks := true }, kinds := [], alts := [], laidByText := true, laidKinds := [.handle], laidTests := true, laidLooks := .later }
def FnFrameErrorsUptoCardSaid : Prop := Claim7.holds Tryz.pinned (.plain (OpenSpec.upto fnFrameErrorsSpec)) fnFrameErrorsUptoCard

/-- THE SECOND FORM's CARD OF 'laws.FnExactReceiveFrame'. -/
def fnExactReceiveFrameUptoCard : Claim7 := { stood := { row := fnExactReceiveFrameUptoRow, standIns := [], harness := (true, "0c65db6bf3c0f0ad6af298dcaabbcd38965101cdd27505b7d0c886774402ac53"), looks := true }, kinds := [], alts := [], laidByText := true, laidKinds := [.handle], laidTests := true, laidLooks := .later }
def FnExactReceiveFrameUptoCardSaid : Prop := Claim7.holds Tryz.pinned (.plain (OpenSpec.upto fnExactReceiveFrameSpec)) fnExactReceiveFrameUptoCard
end Rows
end Go.Proofs.YtdelpepepbkjmaaGreatDoor
