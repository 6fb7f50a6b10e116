/-
  DERIVED. GIVEN WITH THE SEED: THE CARDS: each row of YtbnmjmlcedkoaaaDoorRows.lean that lists a variable, with what it lists TIED to the program's text (the seventh form; the later family's looks); each row that meets fmt, with fmt's text TOLD by the authors' own Lean function (tested against real Go, not proved from fmt's source: count such statements apart). THE CARD IS WHAT COUNTS. Prove the row's statement (the work); the ties are given (YtbnmjmlcedkoaaaDoorTie.lean); close each card by the builder's one call (the guide's Derived/Test/ToyasCard.lean, 'card_holds'). Laid BY PROGRAM, IN A SANDBOX (cutbox-door.mjs). By AI agents, Wed Nov 11 2026. No macro, syntax, notation, axiom, sorry.
-/
import Derived.Test.YtbnmjmlcedkoaaaDoorRows
import GoSem.ClaimSeven
namespace Go.Proofs.YtbnmjmlcedkoaaaDoor
namespace Rows

/-- THE TIED CARD OF 'sluicelaw02.TallyPuts'. -/
def tallyPutsCard : Claim7 := { stood := { row := tallyPutsRow, standIns := [], harness := (true, "6213b75d30c1f36d2f45a9b043b6311ebc6c02e085fe01b6b14adaaac9242a74"), looks := false }, kinds := [], alts := [], laidByText := true, laidKinds := [.data], laidTests := true, laidLooks := .later }
def TallyPutsCardSaid : Prop := Claim7.holds Tryd.pinned (.plain (OpenSpec.ofChange tallyPutsSpec)) tallyPutsCard

/-- THE TIED CARD OF 'sluicelaw02.TallyMons'. -/
def tallyMonsCard : Claim7 := { stood := { row := tallyMonsRow, standIns := [], harness := (true, "6213b75d30c1f36d2f45a9b043b6311ebc6c02e085fe01b6b14adaaac9242a74"), looks := false }, kinds := [], alts := [], laidByText := true, laidKinds := [.data], laidTests := true, laidLooks := .later }
def TallyMonsCardSaid : Prop := Claim7.holds Tryd.pinned (.plain (OpenSpec.ofChange tallyMonsSpec)) tallyMonsCard

/-- THE TIED CARD OF 'sluicelaw02.TallyAdds'. -/
def tallyAddsCard : Claim7 := { stood := { row := tallyAddsRow, standIns := [], harness := (true, "6213b75d30c1f36d2f45a9b043b6311ebc6c02e085fe01b6b14adaaac9242a74"), looks := false }, kinds := [], alts := [], laidByText := true, laidKinds := [.data], laidTests := true, laidLooks := .later }
def TallyAddsCardSaid : Prop := Claim7.holds Tryd.pinned (.plain (OpenSpec.ofChange tallyAddsSpec)) tallyAddsCard

/-- THE SECOND FORM's CARD OF 'sluicelaw02.TallyPuts'. -/
def tallyPutsUptoCard : Claim7 := { stood := { row := tallyPutsUptoRow, standIns := [], harness := (true, "6213b75d30c1f36d2f45a9b043b6311ebc6c02e085fe01b6b14adaaac9242a74"), looks := false }, kinds := [], alts := [], laidByText := true, laidKinds := [.data], laidTests := true, laidLooks := .later }
def TallyPutsUptoCardSaid : Prop := Claim7.holds Tryd.pinned (.plain (OpenSpec.upto tallyPutsSpec)) tallyPutsUptoCard

/-- THE SECOND FORM's CARD OF 'sluicelaw02.TallyMons'. -/
def tallyMonsUptoCard : Claim7 := { stood := { row := tallyMonsUptoRow, standIns := [], harness := (true, "6213b75d30c1f36d2f45a9b043b6311ebc6c02e085fe01b6b14adaaac9242a74"), looks := false }, kinds := [], alts := [], laidByText := true, laidKinds := [.data], laidTests := true, laidLooks := .later }
def TallyMonsUptoCardSaid : Prop := Claim7.holds Tryd.pinned (.plain (OpenSpec.upto tallyMonsSpec)) tallyMonsUptoCard

/-- THE SECOND FORM's CARD OF 'sluicelaw02.TallyAdds'. -/
def tallyAddsUptoCard : Claim7 := { stood := { row := tallyAddsUptoRow, standIns := [], harness := (true, "6213b75d30c1f36d2f45a9b043b6311ebc6c02e085fe01b6b14adaaac9242a74"), looks := false }, kinds := [], alts := [], laidByText := true, laidKinds := [.data], laidTests := true, laidLooks := .later }
def TallyAddsUptoCardSaid : Prop := Claim7.holds Tryd.pinned (.plain (OpenSpec.upto tallyAddsSpec)) tallyAddsUptoCard
end Rows
end Go.Proofs.YtbnmjmlcedkoaaaDoor
