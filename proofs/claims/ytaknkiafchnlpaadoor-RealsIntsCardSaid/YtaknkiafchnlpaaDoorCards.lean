/-
  DERIVED. GIVEN WITH THE SEED: THE CARDS: each row of YtaknkiafchnlpaaDoorRows.lean that lists a variable, with what it lists TIED to the program's text (the seventh form; the later family's looks); each row that meets fmt, with fmt's text TOLD by the authors' own Lean function (tested against real Go, not proved from fmt's source: count such statements apart). THE CARD IS WHAT COUNTS. Prove the row's statement (the work); the ties are given (YtaknkiafchnlpaaDoorTie.lean); close each card by the builder's one call (the guide's Derived/Test/ToyasCard.lean, 'card_holds'). Laid BY PROGRAM, IN A SANDBOX (cutbox-door.mjs). By AI agents, Wed Nov 11 2026. No macro, syntax, notation, axiom, sorry.
-/
import Derived.Test.YtaknkiafchnlpaaDoorRows
import GoSem.ClaimSeven
namespace Go.Proofs.YtaknkiafchnlpaaDoor
namespace Rows

/-- THE TIED CARD OF 'transomlaw02.RealsKinds'. -/
def realsKindsCard : Claim7 := { stood := { row := realsKindsRow, standIns := [], harness := (true, "5ebfad02d70ef7da4252ba1f37b7efde6319ac036390d2245bb29319f573fc53"), looks := false }, kinds := [], alts := [], laidByText := true, laidKinds := [.data], laidTests := true, laidLooks := .later }
def RealsKindsCardSaid : Prop := Claim7.holds Tryd.pinned (.plain (OpenSpec.ofChange realsKindsSpec)) realsKindsCard

/-- THE TIED CARD OF 'transomlaw02.RealsTwo'. -/
def realsTwoCard : Claim7 := { stood := { row := realsTwoRow, standIns := [], harness := (true, "5ebfad02d70ef7da4252ba1f37b7efde6319ac036390d2245bb29319f573fc53"), looks := false }, kinds := [], alts := [], laidByText := true, laidKinds := [.data], laidTests := true, laidLooks := .later }
def RealsTwoCardSaid : Prop := Claim7.holds Tryd.pinned (.plain (OpenSpec.ofChange realsTwoSpec)) realsTwoCard

/-- THE TIED CARD OF 'transomlaw02.RealsInts'. -/
def realsIntsCard : Claim7 := { stood := { row := realsIntsRow, standIns := [], harness := (true, "5ebfad02d70ef7da4252ba1f37b7efde6319ac036390d2245bb29319f573fc53"), looks := false }, kinds := [], alts := [], laidByText := true, laidKinds := [.data], laidTests := true, laidLooks := .later }
def RealsIntsCardSaid : Prop := Claim7.holds Tryd.pinned (.plain (OpenSpec.ofChange realsIntsSpec)) realsIntsCard

/-- THE TIED CARD OF 'transomlaw02.RealsBack'. -/
def realsBackCard : Claim7 := { stood := { row := realsBackRow, standIns := [], harness := (true, "5ebfad02d70ef7da4252ba1f37b7efde6319ac036390d2245bb29319f573fc53"), looks := false }, kinds := [], alts := [], laidByText := true, laidKinds := [.data], laidTests := true, laidLooks := .later }
def RealsBackCardSaid : Prop := Claim7.holds Tryd.pinned (.plain (OpenSpec.ofChange realsBackSpec)) realsBackCard

/-- THE TIED CARD OF 'transomlaw02.RealsOrder'. -/
def realsOrderCard : Claim7 := { stood := { row := realsOrderRow, standIns := [], harness := (true, "5ebfad02d70ef7da4252ba1f37b7efde6319ac036390d2245bb29319f573fc53"), looks := false }, kinds := [], alts := [], laidByText := true, laidKinds := [.data], laidTests := true, laidLooks := .later }
def RealsOrderCardSaid : Prop := Claim7.holds Tryd.pinned (.plain (OpenSpec.ofChange realsOrderSpec)) realsOrderCard

/-- THE TIED CARD OF 'transomlaw02.RealsThree'. -/
def realsThreeCard : Claim7 := { stood := { row := realsThreeRow, standIns := [], harness := (true, "5ebfad02d70ef7da4252ba1f37b7efde6319ac036390d2245bb29319f573fc53"), looks := false }, kinds := [], alts := [], laidByText := true, laidKinds := [.data], laidTests := true, laidLooks := .later }
def RealsThreeCardSaid : Prop := Claim7.holds Tryd.pinned (.plain (OpenSpec.ofChange realsThreeSpec)) realsThreeCard

/-- THE SECOND FORM's CARD OF 'transomlaw02.RealsKinds'. -/
def realsKindsUptoCard : Claim7 := { stood := { row := realsKindsUptoRow, standIns := [], harness := (true, "5ebfad02d70ef7da4252ba1f37b7efde6319ac036390d2245bb29319f573fc53"), looks := false }, kinds := [], alts := [], laidByText := true, laidKinds := [.data], laidTests := true, laidLooks := .later }
def RealsKindsUptoCardSaid : Prop := Claim7.holds Tryd.pinned (.plain (OpenSpec.upto realsKindsSpec)) realsKindsUptoCard

/-- THE SECOND FORM's CARD OF 'transomlaw02.RealsTwo'. -/
def realsTwoUptoCard : Claim7 := { stood := { row := realsTwoUptoRow, standIns := [], harness := (true, "5ebfad02d70ef7da4252ba1f37b7efde6319ac036390d2245bb29319f573fc53"), looks := false }, kinds := [], alts := [], laidByText := true, laidKinds := [.data], laidTests := true, laidLooks := .later }
def RealsTwoUptoCardSaid : Prop := Claim7.holds Tryd.pinned (.plain (OpenSpec.upto realsTwoSpec)) realsTwoUptoCard

/-- THE SECOND FORM's CARD OF 'transomlaw02.RealsInts'. -/
def realsIntsUptoCard : Claim7 := { stood := { row := realsIntsUptoRow, standIns := [], harness := (true, "5ebfad02d70ef7da4252ba1f37b7efde6319ac036390d2245bb29319f573fc53"), looks := false }, kinds := [], alts := [], laidByText := true, laidKinds := [.data], laidTests := true, laidLooks := .later }
def RealsIntsUptoCardSaid : Prop := Claim7.holds Tryd.pinned (.plain (OpenSpec.upto realsIntsSpec)) realsIntsUptoCard

/-- THE SECOND FORM's CARD OF 'transomlaw02.RealsBack'. -/
def realsBackUptoCard : Claim7 := { stood := { row := realsBackUptoRow, standIns := [], harness := (true, "5ebfad02d70ef7da4252ba1f37b7efde6319ac036390d2245bb29319f573fc53"), looks := false }, kinds := [], alts := [], laidByText := true, laidKinds := [.data], laidTests := true, laidLooks := .later }
def RealsBackUptoCardSaid : Prop := Claim7.holds Tryd.pinned (.plain (OpenSpec.upto realsBackSpec)) realsBackUptoCard

/-- THE SECOND FORM's CARD OF 'transomlaw02.RealsOrder'. -/
def realsOrderUptoCard : Claim7 := { stood := { row := realsOrderUptoRow, standIns := [], harness := (true, "5ebfad02d70ef7da4252ba1f37b7efde6319ac036390d2245bb29319f573fc53"), looks := false }, kinds := [], alts := [], laidByText := true, laidKinds := [.data], laidTests := true, laidLooks := .later }
def RealsOrderUptoCardSaid : Prop := Claim7.holds Tryd.pinned (.plain (OpenSpec.upto realsOrderSpec)) realsOrderUptoCard

/-- THE SECOND FORM's CARD OF 'transomlaw02.RealsThree'. -/
def realsThreeUptoCard : Claim7 := { stood := { row := realsThreeUptoRow, standIns := [], harness := (true, "5ebfad02d70ef7da4252ba1f37b7efde6319ac036390d2245bb29319f573fc53"), looks := false }, kinds := [], alts := [], laidByText := true, laidKinds := [.data], laidTests := true, laidLooks := .later }
def RealsThreeUptoCardSaid : Prop := Claim7.holds Tryd.pinned (.plain (OpenSpec.upto realsThreeSpec)) realsThreeUptoCard
end Rows
end Go.Proofs.YtaknkiafchnlpaaDoor
