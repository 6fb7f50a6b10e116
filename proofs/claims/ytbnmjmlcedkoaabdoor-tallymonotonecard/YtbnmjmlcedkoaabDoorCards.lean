/-
  DERIVED. GIVEN WITH THE SEED: THE CARDS: each row of YtbnmjmlcedkoaabDoorRows.lean that lists a variable, with what it lists TIED to the program's text (the seventh form; the later family's looks); each row that meets fmt, with fmt's text TOLD by the authors' own Lean function (tested against real Go, not proved from fmt's source: count such statements apart). THE CARD IS WHAT COUNTS. Prove the row's statement (the work); the ties are given (YtbnmjmlcedkoaabDoorTie.lean); close each card by the builder's one call (the guide's Derived/Test/ToyasCard.lean, 'card_holds'). Laid BY PROGRAM, IN A SANDBOX (cutbox-door.mjs). By AI agents, Wed Nov 11 2026. No macro, syntax, notation, axiom, sorry.
-/
import Derived.Test.YtbnmjmlcedkoaabDoorRows
import GoSem.ClaimSeven
namespace Go.Proofs.YtbnmjmlcedkoaabDoor
namespace Rows

/-- THE TIED CARD OF 'sluicelaw02.TallyOrder'. -/
def tallyOrderCard : Claim7 := { stood := { row := tallyOrderRow, standIns := [], harness := (true, "3c0680c8c87479a252e45c9415106d934e68426cbfd4c7d2e2ba0f3e1cf37b71"), looks := false }, kinds := [], alts := [], laidByText := true, laidKinds := [.data, .data, .pinned], laidTests := true, laidLooks := .later }
def TallyOrderCardSaid : Prop := Claim7.holds Tryd.pinned (.plain (OpenSpec.ofChange tallyOrderSpec)) tallyOrderCard

/-- THE TIED CARD OF 'sluicelaw02.TallyMonotone'. -/
def tallyMonotoneCard : Claim7 := { stood := { row := tallyMonotoneRow, standIns := [], harness := (true, "3c0680c8c87479a252e45c9415106d934e68426cbfd4c7d2e2ba0f3e1cf37b71"), looks := false }, kinds := [], alts := [], laidByText := true, laidKinds := [.data, .data, .pinned], laidTests := true, laidLooks := .later }
def TallyMonotoneCardSaid : Prop := Claim7.holds Tryd.pinned (.plain (OpenSpec.ofChange tallyMonotoneSpec)) tallyMonotoneCard

/-- THE TIED CARD OF 'sluicelaw02.TallyShare'. -/
def tallyShareCard : Claim7 := { stood := { row := tallyShareRow, standIns := [], harness := (true, "3c0680c8c87479a252e45c9415106d934e68426cbfd4c7d2e2ba0f3e1cf37b71"), looks := false }, kinds := [], alts := [], laidByText := true, laidKinds := [.data, .data, .pinned], laidTests := true, laidLooks := .later }
def TallyShareCardSaid : Prop := Claim7.holds Tryd.pinned (.plain (OpenSpec.ofChange tallyShareSpec)) tallyShareCard

/-- THE SECOND FORM's CARD OF 'sluicelaw02.TallyOrder'. -/
def tallyOrderUptoCard : Claim7 := { stood := { row := tallyOrderUptoRow, standIns := [], harness := (true, "3c0680c8c87479a252e45c9415106d934e68426cbfd4c7d2e2ba0f3e1cf37b71"), looks := false }, kinds := [], alts := [], laidByText := true, laidKinds := [.data, .data, .pinned], laidTests := true, laidLooks := .later }
def TallyOrderUptoCardSaid : Prop := Claim7.holds Tryd.pinned (.plain (OpenSpec.upto tallyOrderSpec)) tallyOrderUptoCard

/-- THE SECOND FORM's CARD OF 'sluicelaw02.TallyMonotone'. -/
def tallyMonotoneUptoCard : Claim7 := { stood := { row := tallyMonotoneUptoRow, standIns := [], harness := (true, "3c0680c8c87479a252e45c9415106d934e68426cbfd4c7d2e2ba0f3e1cf37b71"), looks := false }, kinds := [], alts := [], laidByText := true, laidKinds := [.data, .data, .pinned], laidTests := true, laidLooks := .later }
def TallyMonotoneUptoCardSaid : Prop := Claim7.holds Tryd.pinned (.plain (OpenSpec.upto tallyMonotoneSpec)) tallyMonotoneUptoCard

/-- THE SECOND FORM's CARD OF 'sluicelaw02.TallyShare'. -/
def tallyShareUptoCard : Claim7 := { stood := { row := tallyShareUptoRow, standIns := [], harness := (true, "3c0680c8c87479a252e45c9415106d934e68426cbfd4c7d2e2ba0f3e1cf37b71"), looks := false }, kinds := [], alts := [], laidByText := true, laidKinds := [.data, .data, .pinned], laidTests := true, laidLooks := .later }
def TallyShareUptoCardSaid : Prop := Claim7.holds Tryd.pinned (.plain (OpenSpec.upto tallyShareSpec)) tallyShareUptoCard
end Rows
end Go.Proofs.YtbnmjmlcedkoaabDoor
