/-
  DERIVED. GIVEN WITH THE SEED: THE CARDS: each row of YtiljdiagabepbaaGreatDoorRows.lean that lists a variable, with what it lists TIED to the program's text (the seventh form; the later family's looks); each row that meets fmt, with fmt's text TOLD by the authors' own Lean function (tested against real Go, not proved from fmt's source: count such statements apart). THE CARD IS WHAT COUNTS. Prove the row's statement (the work); the ties are given (YtiljdiagabepbaaGreatDoorTie.lean); close each card by the builder's one call (the guide's Derived/Test/ToyasCard.lean, 'card_holds'). Laid BY PROGRAM, IN A SANDBOX (cutbox-door.mjs). By AI agents, Wed Nov 11 2026. No macro, syntax, notation, axiom, sorry.
-/
import Derived.Test.YtiljdiagabepbaaGreatDoorRows
import GoSem.ClaimSeven
namespace Go.Proofs.YtiljdiagabepbaaGreatDoor
namespace Rows

/-- THE TIED CARD OF 'sluicelaw03.PlatterNil'. -/
def platterNilCard : Claim7 := { stood := { row := platterNilRow, standIns := [], harness := (true, "8dbe252c1de54e7fecdb15f8396082078caaf0bd44603a3f3e8e01e7d8f94a9c"), looks := true }, kinds := [], alts := [], laidByText := true, laidKinds := [.data], laidTests := true, laidLooks := .later }
def PlatterNilCardSaid : Prop := Claim7.holds Tryz.pinned (.plain (OpenSpec.ofChange platterNilSpec)) platterNilCard

/-- THE TIED CARD OF 'sluicelaw03.PlatterTwo'. -/
def platterTwoCard : Claim7 := { stood := { row := platterTwoRow, standIns := [], harness := (true, "8dbe252c1de54e7fecdb15f8396082078caaf0bd44603a3f3e8e01e7d8f94a9c"), looks := true }, kinds := [], alts := [], laidByText := true, laidKinds := [.data], laidTests := true, laidLooks := .later }
def PlatterTwoCardSaid : Prop := Claim7.holds Tryz.pinned (.plain (OpenSpec.ofChange platterTwoSpec)) platterTwoCard

/-- THE TIED CARD OF 'sluicelaw03.PlatterFiles'. -/
def platterFilesCard : Claim7 := { stood := { row := platterFilesRow, standIns := [], harness := (true, "8dbe252c1de54e7fecdb15f8396082078caaf0bd44603a3f3e8e01e7d8f94a9c"), looks := true }, kinds := [], alts := [], laidByText := true, laidKinds := [.data], laidTests := true, laidLooks := .later }
def PlatterFilesCardSaid : Prop := Claim7.holds Tryz.pinned (.plain (OpenSpec.ofChange platterFilesSpec)) platterFilesCard

/-- THE SECOND FORM's CARD OF 'sluicelaw03.PlatterNil'. -/
def platterNilUptoCard : Claim7 := { stood := { row := platterNilUptoRow, standIns := [], harness := (true, "8dbe252c1de54e7fecdb15f8396082078caaf0bd44603a3f3e8e01e7d8f94a9c"), looks := true }, kinds := [], alts := [], laidByText := true, laidKinds := [.data], laidTests := true, laidLooks := .later }
def PlatterNilUptoCardSaid : Prop := Claim7.holds Tryz.pinned (.plain (OpenSpec.upto platterNilSpec)) platterNilUptoCard

/-- THE SECOND FORM's CARD OF 'sluicelaw03.PlatterTwo'. -/
def platterTwoUptoCard : Claim7 := { stood := { row := platterTwoUptoRow, standIns := [], harness := (true, "8dbe252c1de54e7fecdb15f8396082078caaf0bd44603a3f3e8e01e7d8f94a9c"), looks := true }, kinds := [], alts := [], laidByText := true, laidKinds := [.data], laidTests := true, laidLooks := .later }
def PlatterTwoUptoCardSaid : Prop := Claim7.holds Tryz.pinned (.plain (OpenSpec.upto platterTwoSpec)) platterTwoUptoCard

/-- THE SECOND FORM's CARD OF 'sluicelaw03.PlatterFiles'. -/
def platterFilesUptoCard : Claim7 := { stood := { row := platterFilesUptoRow, standIns := [], harness := (true, "8dbe252c1de54e7fecdb15f8396082078caaf0bd44603a3f3e8e01e7d8f94a9c"), looks := true }, kinds := [], alts := [], laidByText := true, laidKinds := [.data], laidTests := true, laidLooks := .later }
def PlatterFilesUptoCardSaid : Prop := Claim7.holds Tryz.pinned (.plain (OpenSpec.upto platterFilesSpec)) platterFilesUptoCard
end Rows
end Go.Proofs.YtiljdiagabepbaaGreatDoor
