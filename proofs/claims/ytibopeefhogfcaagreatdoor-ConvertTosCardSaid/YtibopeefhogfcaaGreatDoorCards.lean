/-
  DERIVED. GIVEN WITH THE SEED: THE CARDS: each row of YtibopeefhogfcaaGreatDoorRows.lean that lists a variable, with what it lists TIED to the program's text (the seventh form; the later family's looks); each row that meets fmt, with fmt's text TOLD by the authors' own Lean function (tested against real Go, not proved from fmt's source: count such statements apart). THE CARD IS WHAT COUNTS. Prove the row's statement (the work); the ties are given (YtibopeefhogfcaaGreatDoorTie.lean); close each card by the builder's one call (the guide's Derived/Test/ToyasCard.lean, 'card_holds'). Laid BY PROGRAM, IN A SANDBOX (cutbox-door.mjs). By AI agents, Wed Nov 11 2026. No macro, syntax, notation, axiom, sorry.
-/
import Derived.Test.YtibopeefhogfcaaGreatDoorRows
import GoSem.ClaimSeven
namespace Go.Proofs.YtibopeefhogfcaaGreatDoor
namespace Rows

/-- THE TIED CARD OF 'transomlaw07.ConvertTos'. -/
def convertTosCard : Claim7 := { stood := { row := convertTosRow, standIns := [], harness := (true, "ecb93c10c27bad2ad3399201eb5f31e4c80fdb4def5536d47a853b55153538c2"), looks := true }, kinds := [], alts := [], laidByText := true, laidKinds := [.data, .data, .data, .sentinel, .sentinel, .data], laidTests := true, laidLooks := .later }
def ConvertTosCardSaid : Prop := Claim7.holds Tryz.pinned (.plain (OpenSpec.ofChange convertTosSpec)) convertTosCard

/-- THE SECOND FORM's CARD OF 'transomlaw07.ConvertTos'. -/
def convertTosUptoCard : Claim7 := { stood := { row := convertTosUptoRow, standIns := [], harness := (true, "ecb93c10c27bad2ad3399201eb5f31e4c80fdb4def5536d47a853b55153538c2"), looks := true }, kinds := [], alts := [], laidByText := true, laidKinds := [.data, .data, .data, .sentinel, .sentinel, .data], laidTests := true, laidLooks := .later }
def ConvertTosUptoCardSaid : Prop := Claim7.holds Tryz.pinned (.plain (OpenSpec.upto convertTosSpec)) convertTosUptoCard
end Rows
end Go.Proofs.YtibopeefhogfcaaGreatDoor
