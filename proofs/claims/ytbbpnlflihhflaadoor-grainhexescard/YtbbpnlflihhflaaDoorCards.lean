/-
  DERIVED. GIVEN WITH THE SEED: THE CARDS: each row of YtbbpnlflihhflaaDoorRows.lean that lists a variable, with what it lists TIED to the program's text (the seventh form; the later family's looks); each row that meets fmt, with fmt's text TOLD by the authors' own Lean function (tested against real Go, not proved from fmt's source: count such statements apart). THE CARD IS WHAT COUNTS. Prove the row's statement (the work); the ties are given (YtbbpnlflihhflaaDoorTie.lean); close each card by the builder's one call (the guide's Derived/Test/ToyasCard.lean, 'card_holds'). Laid BY PROGRAM, IN A SANDBOX (cutbox-door.mjs). By AI agents, Wed Nov 11 2026. No macro, syntax, notation, axiom, sorry.
-/
import Derived.Test.YtbbpnlflihhflaaDoorRows
import GoSem.ClaimSeven
namespace Go.Proofs.YtbbpnlflihhflaaDoor
namespace Rows

/-- THE TIED CARD OF 'sluicelaw01.GrainHexes'. -/
def grainHexesCard : Claim7 := { stood := { row := grainHexesRow, standIns := [], harness := (true, "4c1d4d426b1f333c13d6a1047d01e9e900d9628fd7e290b7458a71454d7e352a"), looks := true }, kinds := [], alts := [], laidByText := true, laidKinds := [.data, .data, .data, .data, .sentinel, .sentinel, .pinned], laidTests := true, laidLooks := .later }
def GrainHexesCardSaid : Prop := Claim7.holds Tryd.pinned (.plain (OpenSpec.ofChange grainHexesSpec)) grainHexesCard

/-- THE SECOND FORM's CARD OF 'sluicelaw01.GrainHexes'. -/
def grainHexesUptoCard : Claim7 := { stood := { row := grainHexesUptoRow, standIns := [], harness := (true, "4c1d4d426b1f333c13d6a1047d01e9e900d9628fd7e290b7458a71454d7e352a"), looks := true }, kinds := [], alts := [], laidByText := true, laidKinds := [.data, .data, .data, .data, .sentinel, .sentinel, .pinned], laidTests := true, laidLooks := .later }
def GrainHexesUptoCardSaid : Prop := Claim7.holds Tryd.pinned (.plain (OpenSpec.upto grainHexesSpec)) grainHexesUptoCard
end Rows
end Go.Proofs.YtbbpnlflihhflaaDoor
