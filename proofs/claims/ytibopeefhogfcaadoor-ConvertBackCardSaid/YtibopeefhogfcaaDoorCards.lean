/-
  DERIVED. GIVEN WITH THE SEED: THE CARDS: each row of YtibopeefhogfcaaDoorRows.lean that lists a variable, with what it lists TIED to the program's text (the seventh form; the later family's looks); each row that meets fmt, with fmt's text TOLD by the authors' own Lean function (tested against real Go, not proved from fmt's source: count such statements apart). THE CARD IS WHAT COUNTS. Prove the row's statement (the work); the ties are given (YtibopeefhogfcaaDoorTie.lean); close each card by the builder's one call (the guide's Derived/Test/ToyasCard.lean, 'card_holds'). Laid BY PROGRAM, IN A SANDBOX (cutbox-door.mjs). By AI agents, Wed Nov 11 2026. No macro, syntax, notation, axiom, sorry.
-/
import Derived.Test.YtibopeefhogfcaaDoorRows
import GoSem.ClaimSeven
namespace Go.Proofs.YtibopeefhogfcaaDoor
namespace Rows

/-- THE TIED CARD OF 'transomlaw07.ConvertDigits'. -/
def convertDigitsCard : Claim7 := { stood := { row := convertDigitsRow, standIns := [], harness := (true, "77c43c3d78e4c5abd1d4d7b0f93d1c56b8a5ba03f0f2b8dcc7192f808c783b78"), looks := true }, kinds := [], alts := [], laidByText := true, laidKinds := [.data, .data, .data, .sentinel, .sentinel, .data], laidTests := true, laidLooks := .later }
def ConvertDigitsCardSaid : Prop := Claim7.holds Tryd.pinned (.plain (OpenSpec.ofChange convertDigitsSpec)) convertDigitsCard

/-- THE TIED CARD OF 'transomlaw07.ConvertFits'. -/
def convertFitsCard : Claim7 := { stood := { row := convertFitsRow, standIns := [], harness := (true, "77c43c3d78e4c5abd1d4d7b0f93d1c56b8a5ba03f0f2b8dcc7192f808c783b78"), looks := true }, kinds := [], alts := [], laidByText := true, laidKinds := [.data, .data, .data, .sentinel, .sentinel, .data], laidTests := true, laidLooks := .later }
def ConvertFitsCardSaid : Prop := Claim7.holds Tryd.pinned (.plain (OpenSpec.ofChange convertFitsSpec)) convertFitsCard

/-- THE TIED CARD OF 'transomlaw07.ConvertBack'. -/
def convertBackCard : Claim7 := { stood := { row := convertBackRow, standIns := [], harness := (true, "77c43c3d78e4c5abd1d4d7b0f93d1c56b8a5ba03f0f2b8dcc7192f808c783b78"), looks := true }, kinds := [], alts := [], laidByText := true, laidKinds := [.data, .data, .data, .sentinel, .sentinel, .data], laidTests := true, laidLooks := .later }
def ConvertBackCardSaid : Prop := Claim7.holds Tryd.pinned (.plain (OpenSpec.ofChange convertBackSpec)) convertBackCard

/-- THE SECOND FORM's CARD OF 'transomlaw07.ConvertDigits'. -/
def convertDigitsUptoCard : Claim7 := { stood := { row := convertDigitsUptoRow, standIns := [], harness := (true, "77c43c3d78e4c5abd1d4d7b0f93d1c56b8a5ba03f0f2b8dcc7192f808c783b78"), looks := true }, kinds := [], alts := [], laidByText := true, laidKinds := [.data, .data, .data, .sentinel, .sentinel, .data], laidTests := true, laidLooks := .later }
def ConvertDigitsUptoCardSaid : Prop := Claim7.holds Tryd.pinned (.plain (OpenSpec.upto convertDigitsSpec)) convertDigitsUptoCard

/-- THE SECOND FORM's CARD OF 'transomlaw07.ConvertFits'. -/
def convertFitsUptoCard : Claim7 := { stood := { row := convertFitsUptoRow, standIns := [], harness := (true, "77c43c3d78e4c5abd1d4d7b0f93d1c56b8a5ba03f0f2b8dcc7192f808c783b78"), looks := true }, kinds := [], alts := [], laidByText := true, laidKinds := [.data, .data, .data, .sentinel, .sentinel, .data], laidTests := true, laidLooks := .later }
def ConvertFitsUptoCardSaid : Prop := Claim7.holds Tryd.pinned (.plain (OpenSpec.upto convertFitsSpec)) convertFitsUptoCard

/-- THE SECOND FORM's CARD OF 'transomlaw07.ConvertBack'. -/
def convertBackUptoCard : Claim7 := { stood := { row := convertBackUptoRow, standIns := [], harness := (true, "77c43c3d78e4c5abd1d4d7b0f93d1c56b8a5ba03f0f2b8dcc7192f808c783b78"), looks := true }, kinds := [], alts := [], laidByText := true, laidKinds := [.data, .data, .data, .sentinel, .sentinel, .data], laidTests := true, laidLooks := .later }
def ConvertBackUptoCardSaid : Prop := Claim7.holds Tryd.pinned (.plain (OpenSpec.upto convertBackSpec)) convertBackUptoCard
end Rows
end Go.Proofs.YtibopeefhogfcaaDoor
