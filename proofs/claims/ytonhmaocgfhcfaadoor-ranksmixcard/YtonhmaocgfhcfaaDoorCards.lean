/-
  DERIVED. GIVEN WITH THE SEED: THE CARDS: each row of YtonhmaocgfhcfaaDoorRows.lean that lists a variable, with what it lists TIED to the program's text (the seventh form; the later family's looks); each row that meets fmt, with fmt's text TOLD by the authors' own Lean function (tested against real Go, not proved from fmt's source: count such statements apart). THE CARD IS WHAT COUNTS. Prove the row's statement (the work); the ties are given (YtonhmaocgfhcfaaDoorTie.lean); close each card by the builder's one call (the guide's Derived/Test/ToyasCard.lean, 'card_holds'). Laid BY PROGRAM, IN A SANDBOX (cutbox-door.mjs). By AI agents, Wed Nov 11 2026. No macro, syntax, notation, axiom, sorry.
-/
import Derived.Test.YtonhmaocgfhcfaaDoorRows
import GoSem.ClaimSeven
namespace Go.Proofs.YtonhmaocgfhcfaaDoor
namespace Rows

/-- THE TIED CARD OF 'sluicelaw15.RanksMix'. -/
def ranksMixCard : Claim7 := { stood := { row := ranksMixRow, standIns := [], harness := (true, "6c947d4f3bfbb23cb5af9df7806a3691cf7c0bffacaa2a2ac827210f65806128"), looks := false }, kinds := [], alts := [], laidByText := true, laidKinds := [.data], laidTests := true, laidLooks := .later }
def RanksMixCardSaid : Prop := Claim7.holds Tryd.pinned (.plain (OpenSpec.ofChange ranksMixSpec)) ranksMixCard

/-- THE SECOND FORM's CARD OF 'sluicelaw15.RanksMix'. -/
def ranksMixUptoCard : Claim7 := { stood := { row := ranksMixUptoRow, standIns := [], harness := (true, "6c947d4f3bfbb23cb5af9df7806a3691cf7c0bffacaa2a2ac827210f65806128"), looks := false }, kinds := [], alts := [], laidByText := true, laidKinds := [.data], laidTests := true, laidLooks := .later }
def RanksMixUptoCardSaid : Prop := Claim7.holds Tryd.pinned (.plain (OpenSpec.upto ranksMixSpec)) ranksMixUptoCard
end Rows
end Go.Proofs.YtonhmaocgfhcfaaDoor
