/-
  DERIVED. GIVEN WITH THE SEED: THE CARDS: each row of YtiljdiagabepbaaDoorRows.lean that lists a variable, with what it lists TIED to the program's text (the seventh form; the later family's looks); each row that meets fmt, with fmt's text TOLD by the authors' own Lean function (tested against real Go, not proved from fmt's source: count such statements apart). THE CARD IS WHAT COUNTS. Prove the row's statement (the work); the ties are given (YtiljdiagabepbaaDoorTie.lean); close each card by the builder's one call (the guide's Derived/Test/ToyasCard.lean, 'card_holds'). Laid BY PROGRAM, IN A SANDBOX (cutbox-door.mjs). By AI agents, Wed Nov 11 2026. No macro, syntax, notation, axiom, sorry.
-/
import Derived.Test.YtiljdiagabepbaaDoorRows
import GoSem.ClaimSeven
namespace Go.Proofs.YtiljdiagabepbaaDoor
namespace Rows

/-- THE TIED CARD OF 'sluicelaw03.PlatterFresh'. -/
def platterFreshCard : Claim7 := { stood := { row := platterFreshRow, standIns := [], harness := (true, "d086712b81880994116c4dc59812f1505cc5325e6d8431123d9e7e261e666240"), looks := true }, kinds := [], alts := [], laidByText := true, laidKinds := [.data], laidTests := true, laidLooks := .later }
def PlatterFreshCardSaid : Prop := Claim7.holds Tryd.pinned (.plain (OpenSpec.ofChange platterFreshSpec)) platterFreshCard

/-- THE TIED CARD OF 'sluicelaw03.PlatterBack'. -/
def platterBackCard : Claim7 := { stood := { row := platterBackRow, standIns := [], harness := (true, "d086712b81880994116c4dc59812f1505cc5325e6d8431123d9e7e261e666240"), looks := true }, kinds := [], alts := [], laidByText := true, laidKinds := [.data], laidTests := true, laidLooks := .later }
def PlatterBackCardSaid : Prop := Claim7.holds Tryd.pinned (.plain (OpenSpec.ofChange platterBackSpec)) platterBackCard

/-- THE TIED CARD OF 'sluicelaw03.PlatterKept'. -/
def platterKeptCard : Claim7 := { stood := { row := platterKeptRow, standIns := [], harness := (true, "d086712b81880994116c4dc59812f1505cc5325e6d8431123d9e7e261e666240"), looks := true }, kinds := [], alts := [], laidByText := true, laidKinds := [.data], laidTests := true, laidLooks := .later }
def PlatterKeptCardSaid : Prop := Claim7.holds Tryd.pinned (.plain (OpenSpec.ofChange platterKeptSpec)) platterKeptCard

/-- THE SECOND FORM's CARD OF 'sluicelaw03.PlatterFresh'. -/
def platterFreshUptoCard : Claim7 := { stood := { row := platterFreshUptoRow, standIns := [], harness := (true, "d086712b81880994116c4dc59812f1505cc5325e6d8431123d9e7e261e666240"), looks := true }, kinds := [], alts := [], laidByText := true, laidKinds := [.data], laidTests := true, laidLooks := .later }
def PlatterFreshUptoCardSaid : Prop := Claim7.holds Tryd.pinned (.plain (OpenSpec.upto platterFreshSpec)) platterFreshUptoCard

/-- THE SECOND FORM's CARD OF 'sluicelaw03.PlatterBack'. -/
def platterBackUptoCard : Claim7 := { stood := { row := platterBackUptoRow, standIns := [], harness := (true, "d086712b81880994116c4dc59812f1505cc5325e6d8431123d9e7e261e666240"), looks := true }, kinds := [], alts := [], laidByText := true, laidKinds := [.data], laidTests := true, laidLooks := .later }
def PlatterBackUptoCardSaid : Prop := Claim7.holds Tryd.pinned (.plain (OpenSpec.upto platterBackSpec)) platterBackUptoCard

/-- THE SECOND FORM's CARD OF 'sluicelaw03.PlatterKept'. -/
def platterKeptUptoCard : Claim7 := { stood := { row := platterKeptUptoRow, standIns := [], harness := (true, "d086712b81880994116c4dc59812f1505cc5325e6d8431123d9e7e261e666240"), looks := true }, kinds := [], alts := [], laidByText := true, laidKinds := [.data], laidTests := true, laidLooks := .later }
def PlatterKeptUptoCardSaid : Prop := Claim7.holds Tryd.pinned (.plain (OpenSpec.upto platterKeptSpec)) platterKeptUptoCard
end Rows
end Go.Proofs.YtiljdiagabepbaaDoor
