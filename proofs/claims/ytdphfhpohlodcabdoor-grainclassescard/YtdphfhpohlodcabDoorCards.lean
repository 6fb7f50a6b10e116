/-
  DERIVED. GIVEN WITH THE SEED: THE CARDS: each row of YtdphfhpohlodcabDoorRows.lean that lists a variable, with what it lists TIED to the program's text (the seventh form; the later family's looks); each row that meets fmt, with fmt's text TOLD by the authors' own Lean function (tested against real Go, not proved from fmt's source: count such statements apart). THE CARD IS WHAT COUNTS. Prove the row's statement (the work); the ties are given (YtdphfhpohlodcabDoorTie.lean); close each card by the builder's one call (the guide's Derived/Test/ToyasCard.lean, 'card_holds'). Laid BY PROGRAM, IN A SANDBOX (cutbox-door.mjs). By AI agents, Wed Nov 11 2026. No macro, syntax, notation, axiom, sorry.
-/
import Derived.Test.YtdphfhpohlodcabDoorRows
import GoSem.ClaimSeven
namespace Go.Proofs.YtdphfhpohlodcabDoor
namespace Rows

/-- THE TIED CARD OF 'sluicelaw01.GrainClasses'. -/
def grainClassesCard : Claim7 := { stood := { row := grainClassesRow, standIns := [], harness := (true, "ca316f21db6dc5a0772d4ec06f1ebeb40f412d1d4d1b5fa5902d72219b7addff"), looks := false }, kinds := [], alts := [], laidByText := true, laidKinds := [.data], laidTests := true, laidLooks := .later }
def GrainClassesCardSaid : Prop := Claim7.holds Tryd.pinned (.plain (OpenSpec.ofChange grainClassesSpec)) grainClassesCard

/-- THE SECOND FORM's CARD OF 'sluicelaw01.GrainClasses'. -/
def grainClassesUptoCard : Claim7 := { stood := { row := grainClassesUptoRow, standIns := [], harness := (true, "ca316f21db6dc5a0772d4ec06f1ebeb40f412d1d4d1b5fa5902d72219b7addff"), looks := false }, kinds := [], alts := [], laidByText := true, laidKinds := [.data], laidTests := true, laidLooks := .later }
def GrainClassesUptoCardSaid : Prop := Claim7.holds Tryd.pinned (.plain (OpenSpec.upto grainClassesSpec)) grainClassesUptoCard
end Rows
end Go.Proofs.YtdphfhpohlodcabDoor
