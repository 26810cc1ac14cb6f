/-
  DERIVED. GIVEN WITH THE SEED: THE CARDS: each row of YtcgienhkonhgcaaDoorRows.lean that lists a variable, with what it lists TIED to the program's text (the seventh form; the later family's looks); each row that meets fmt, with fmt's text TOLD by the authors' own Lean function (tested against real Go, not proved from fmt's source: count such statements apart). THE CARD IS WHAT COUNTS. Prove the row's statement (the work); the ties are given (YtcgienhkonhgcaaDoorTie.lean); close each card by the builder's one call (the guide's Derived/Test/ToyasCard.lean, 'card_holds'). Laid BY PROGRAM, IN A SANDBOX (cutbox-door.mjs). By AI agents, Wed Nov 11 2026. No macro, syntax, notation, axiom, sorry.
-/
import Derived.Test.YtcgienhkonhgcaaDoorRows
import GoSem.ClaimSeven
namespace Go.Proofs.YtcgienhkonhgcaaDoor
namespace Rows

/-- THE TIED CARD OF 'transomlaw04.ValuesOne'. -/
def valuesOneCard : Claim7 := { stood := { row := valuesOneRow, standIns := [], harness := (true, "7d24e07a6aa93d1fce471c95b04aad6be176e0fe44c92a56fd775208eb5a3143"), looks := false }, kinds := [], alts := [], laidByText := true, laidKinds := [.data], laidTests := true, laidLooks := .later }
def ValuesOneCardSaid : Prop := Claim7.holds Tryd.pinned (.plain (OpenSpec.ofChange valuesOneSpec)) valuesOneCard

/-- THE TIED CARD OF 'transomlaw04.ValuesTwo'. -/
def valuesTwoCard : Claim7 := { stood := { row := valuesTwoRow, standIns := [], harness := (true, "7d24e07a6aa93d1fce471c95b04aad6be176e0fe44c92a56fd775208eb5a3143"), looks := false }, kinds := [], alts := [], laidByText := true, laidKinds := [.data], laidTests := true, laidLooks := .later }
def ValuesTwoCardSaid : Prop := Claim7.holds Tryd.pinned (.plain (OpenSpec.ofChange valuesTwoSpec)) valuesTwoCard

/-- THE TIED CARD OF 'transomlaw04.ValuesKinds'. -/
def valuesKindsCard : Claim7 := { stood := { row := valuesKindsRow, standIns := [], harness := (true, "7d24e07a6aa93d1fce471c95b04aad6be176e0fe44c92a56fd775208eb5a3143"), looks := false }, kinds := [], alts := [], laidByText := true, laidKinds := [.data], laidTests := true, laidLooks := .later }
def ValuesKindsCardSaid : Prop := Claim7.holds Tryd.pinned (.plain (OpenSpec.ofChange valuesKindsSpec)) valuesKindsCard

/-- THE TIED CARD OF 'transomlaw04.ValuesThree'. -/
def valuesThreeCard : Claim7 := { stood := { row := valuesThreeRow, standIns := [], harness := (true, "7d24e07a6aa93d1fce471c95b04aad6be176e0fe44c92a56fd775208eb5a3143"), looks := false }, kinds := [], alts := [], laidByText := true, laidKinds := [.data], laidTests := true, laidLooks := .later }
def ValuesThreeCardSaid : Prop := Claim7.holds Tryd.pinned (.plain (OpenSpec.ofChange valuesThreeSpec)) valuesThreeCard

/-- THE SECOND FORM's CARD OF 'transomlaw04.ValuesOne'. -/
def valuesOneUptoCard : Claim7 := { stood := { row := valuesOneUptoRow, standIns := [], harness := (true, "7d24e07a6aa93d1fce471c95b04aad6be176e0fe44c92a56fd775208eb5a3143"), looks := false }, kinds := [], alts := [], laidByText := true, laidKinds := [.data], laidTests := true, laidLooks := .later }
def ValuesOneUptoCardSaid : Prop := Claim7.holds Tryd.pinned (.plain (OpenSpec.upto valuesOneSpec)) valuesOneUptoCard

/-- THE SECOND FORM's CARD OF 'transomlaw04.ValuesTwo'. -/
def valuesTwoUptoCard : Claim7 := { stood := { row := valuesTwoUptoRow, standIns := [], harness := (true, "7d24e07a6aa93d1fce471c95b04aad6be176e0fe44c92a56fd775208eb5a3143"), looks := false }, kinds := [], alts := [], laidByText := true, laidKinds := [.data], laidTests := true, laidLooks := .later }
def ValuesTwoUptoCardSaid : Prop := Claim7.holds Tryd.pinned (.plain (OpenSpec.upto valuesTwoSpec)) valuesTwoUptoCard

/-- THE SECOND FORM's CARD OF 'transomlaw04.ValuesKinds'. -/
def valuesKindsUptoCard : Claim7 := { stood := { row := valuesKindsUptoRow, standIns := [], harness := (true, "7d24e07a6aa93d1fce471c95b04aad6be176e0fe44c92a56fd775208eb5a3143"), looks := false }, kinds := [], alts := [], laidByText := true, laidKinds := [.data], laidTests := true, laidLooks := .later }
def ValuesKindsUptoCardSaid : Prop := Claim7.holds Tryd.pinned (.plain (OpenSpec.upto valuesKindsSpec)) valuesKindsUptoCard

/-- THE SECOND FORM's CARD OF 'transomlaw04.ValuesThree'. -/
def valuesThreeUptoCard : Claim7 := { stood := { row := valuesThreeUptoRow, standIns := [], harness := (true, "7d24e07a6aa93d1fce471c95b04aad6be176e0fe44c92a56fd775208eb5a3143"), looks := false }, kinds := [], alts := [], laidByText := true, laidKinds := [.data], laidTests := true, laidLooks := .later }
def ValuesThreeUptoCardSaid : Prop := Claim7.holds Tryd.pinned (.plain (OpenSpec.upto valuesThreeSpec)) valuesThreeUptoCard
end Rows
end Go.Proofs.YtcgienhkonhgcaaDoor
