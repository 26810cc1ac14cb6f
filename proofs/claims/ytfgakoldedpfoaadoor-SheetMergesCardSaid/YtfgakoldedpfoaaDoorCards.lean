/-
  DERIVED. GIVEN WITH THE SEED: THE CARDS: each row of YtfgakoldedpfoaaDoorRows.lean that lists a variable, with what it lists TIED to the program's text (the seventh form; the later family's looks); each row that meets fmt, with fmt's text TOLD by the authors' own Lean function (tested against real Go, not proved from fmt's source: count such statements apart). THE CARD IS WHAT COUNTS. Prove the row's statement (the work); the ties are given (YtfgakoldedpfoaaDoorTie.lean); close each card by the builder's one call (the guide's Derived/Test/ToyasCard.lean, 'card_holds'). Laid BY PROGRAM, IN A SANDBOX (cutbox-door.mjs). By AI agents, Wed Nov 11 2026. No macro, syntax, notation, axiom, sorry.
-/
import Derived.Test.YtfgakoldedpfoaaDoorRows
import GoSem.ClaimSeven
namespace Go.Proofs.YtfgakoldedpfoaaDoor
namespace Rows

/-- THE TIED CARD OF 'transomlaw12.SheetRanges'. -/
def sheetRangesCard : Claim7 := { stood := { row := sheetRangesRow, standIns := [], harness := (true, "450ae467f97e654022cb92d31e3694b73a35b8a0d7f30a04f6fda3ba5ae2c9ab"), looks := true }, kinds := [], alts := [], laidByText := true, laidKinds := [.handle], laidTests := true, laidLooks := .later }
def SheetRangesCardSaid : Prop := Claim7.holds Tryd.pinned (.plain (OpenSpec.ofChange sheetRangesSpec)) sheetRangesCard

/-- THE TIED CARD OF 'transomlaw12.SheetMerges'. -/
def sheetMergesCard : Claim7 := { stood := { row := sheetMergesRow, standIns := [], harness := (true, "450ae467f97e654022cb92d31e3694b73a35b8a0d7f30a04f6fda3ba5ae2c9ab"), looks := true }, kinds := [], alts := [], laidByText := true, laidKinds := [.handle], laidTests := true, laidLooks := .later }
def SheetMergesCardSaid : Prop := Claim7.holds Tryd.pinned (.plain (OpenSpec.ofChange sheetMergesSpec)) sheetMergesCard

/-- THE TIED CARD OF 'transomlaw12.SheetBack'. -/
def sheetBackCard : Claim7 := { stood := { row := sheetBackRow, standIns := [], harness := (true, "450ae467f97e654022cb92d31e3694b73a35b8a0d7f30a04f6fda3ba5ae2c9ab"), looks := true }, kinds := [], alts := [], laidByText := true, laidKinds := [.handle], laidTests := true, laidLooks := .later }
def SheetBackCardSaid : Prop := Claim7.holds Tryd.pinned (.plain (OpenSpec.ofChange sheetBackSpec)) sheetBackCard

/-- THE SECOND FORM's CARD OF 'transomlaw12.SheetRanges'. -/
def sheetRangesUptoCard : Claim7 := { stood := { row := sheetRangesUptoRow, standIns := [], harness := (true, "450ae467f97e654022cb92d31e3694b73a35b8a0d7f30a04f6fda3ba5ae2c9ab"), looks := true }, kinds := [], alts := [], laidByText := true, laidKinds := [.handle], laidTests := true, laidLooks := .later }
def SheetRangesUptoCardSaid : Prop := Claim7.holds Tryd.pinned (.plain (OpenSpec.upto sheetRangesSpec)) sheetRangesUptoCard

/-- THE SECOND FORM's CARD OF 'transomlaw12.SheetMerges'. -/
def sheetMergesUptoCard : Claim7 := { stood := { row := sheetMergesUptoRow, standIns := [], harness := (true, "450ae467f97e654022cb92d31e3694b73a35b8a0d7f30a04f6fda3ba5ae2c9ab"), looks := true }, kinds := [], alts := [], laidByText := true, laidKinds := [.handle], laidTests := true, laidLooks := .later }
def SheetMergesUptoCardSaid : Prop := Claim7.holds Tryd.pinned (.plain (OpenSpec.upto sheetMergesSpec)) sheetMergesUptoCard

/-- THE SECOND FORM's CARD OF 'transomlaw12.SheetBack'. -/
def sheetBackUptoCard : Claim7 := { stood := { row := sheetBackUptoRow, standIns := [], harness := (true, "450ae467f97e654022cb92d31e3694b73a35b8a0d7f30a04f6fda3ba5ae2c9ab"), looks := true }, kinds := [], alts := [], laidByText := true, laidKinds := [.handle], laidTests := true, laidLooks := .later }
def SheetBackUptoCardSaid : Prop := Claim7.holds Tryd.pinned (.plain (OpenSpec.upto sheetBackSpec)) sheetBackUptoCard
end Rows
end Go.Proofs.YtfgakoldedpfoaaDoor
