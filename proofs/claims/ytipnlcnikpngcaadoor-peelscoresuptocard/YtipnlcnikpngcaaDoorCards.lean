/-
  DERIVED. GIVEN WITH THE SEED: THE CARDS: each row of YtipnlcnikpngcaaDoorRows.lean that lists a variable, with what it lists TIED to the program's text (the seventh form; the later family's looks); each row that meets fmt, with fmt's text TOLD by the authors' own Lean function (tested against real Go, not proved from fmt's source: count such statements apart). THE CARD IS WHAT COUNTS. Prove the row's statement (the work); the ties are given (YtipnlcnikpngcaaDoorTie.lean); close each card by the builder's one call (the guide's Derived/Test/ToyasCard.lean, 'card_holds'). Laid BY PROGRAM, IN A SANDBOX (cutbox-door.mjs). By AI agents, Wed Nov 11 2026. No macro, syntax, notation, axiom, sorry.
-/
import Derived.Test.YtipnlcnikpngcaaDoorRows
import GoSem.ClaimSeven
namespace Go.Proofs.YtipnlcnikpngcaaDoor
namespace Rows

/-- THE TIED CARD OF 'sluicelaw14.PeelsSet'. -/
def peelsSetCard : Claim7 := { stood := { row := peelsSetRow, standIns := [], harness := (true, "af873c9911460c8fb2ec309279cd4435944648de85d0c676a85a0e53b6f4e524"), looks := false }, kinds := [], alts := [], laidByText := true, laidKinds := [.data], laidTests := true, laidLooks := .later }
def PeelsSetCardSaid : Prop := Claim7.holds Tryd.pinned (.plain (OpenSpec.ofChange peelsSetSpec)) peelsSetCard

/-- THE TIED CARD OF 'sluicelaw14.PeelsCores'. -/
def peelsCoresCard : Claim7 := { stood := { row := peelsCoresRow, standIns := [], harness := (true, "af873c9911460c8fb2ec309279cd4435944648de85d0c676a85a0e53b6f4e524"), looks := false }, kinds := [], alts := [], laidByText := true, laidKinds := [.data], laidTests := true, laidLooks := .later }
def PeelsCoresCardSaid : Prop := Claim7.holds Tryd.pinned (.plain (OpenSpec.ofChange peelsCoresSpec)) peelsCoresCard

/-- THE SECOND FORM's CARD OF 'sluicelaw14.PeelsSet'. -/
def peelsSetUptoCard : Claim7 := { stood := { row := peelsSetUptoRow, standIns := [], harness := (true, "af873c9911460c8fb2ec309279cd4435944648de85d0c676a85a0e53b6f4e524"), looks := false }, kinds := [], alts := [], laidByText := true, laidKinds := [.data], laidTests := true, laidLooks := .later }
def PeelsSetUptoCardSaid : Prop := Claim7.holds Tryd.pinned (.plain (OpenSpec.upto peelsSetSpec)) peelsSetUptoCard

/-- THE SECOND FORM's CARD OF 'sluicelaw14.PeelsCores'. -/
def peelsCoresUptoCard : Claim7 := { stood := { row := peelsCoresUptoRow, standIns := [], harness := (true, "af873c9911460c8fb2ec309279cd4435944648de85d0c676a85a0e53b6f4e524"), looks := false }, kinds := [], alts := [], laidByText := true, laidKinds := [.data], laidTests := true, laidLooks := .later }
def PeelsCoresUptoCardSaid : Prop := Claim7.holds Tryd.pinned (.plain (OpenSpec.upto peelsCoresSpec)) peelsCoresUptoCard
end Rows
end Go.Proofs.YtipnlcnikpngcaaDoor
