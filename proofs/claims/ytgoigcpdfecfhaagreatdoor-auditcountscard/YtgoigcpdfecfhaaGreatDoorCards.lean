/-
  DERIVED. GIVEN WITH THE SEED: THE CARDS: each row of YtgoigcpdfecfhaaGreatDoorRows.lean that lists a variable, with what it lists TIED to the program's text (the seventh form; the later family's looks); each row that meets fmt, with fmt's text TOLD by the authors' own Lean function (tested against real Go, not proved from fmt's source: count such statements apart). THE CARD IS WHAT COUNTS. Prove the row's statement (the work); the ties are given (YtgoigcpdfecfhaaGreatDoorTie.lean); close each card by the builder's one call (the guide's Derived/Test/ToyasCard.lean, 'card_holds'). Laid BY PROGRAM, IN A SANDBOX (cutbox-door.mjs). By AI agents, Wed Nov 11 2026. No macro, syntax, notation, axiom, sorry.
-/
import Derived.Test.YtgoigcpdfecfhaaGreatDoorRows
import GoSem.ClaimSeven
namespace Go.Proofs.YtgoigcpdfecfhaaGreatDoor
namespace Rows

/-- THE TIED CARD OF 'sluicelaw18.AuditCounts'. -/
def auditCountsCard : Claim7 := { stood := { row := auditCountsRow, standIns := [], harness := (true, "029171af3050aa22cadc300c885f6d5c76546c50130bea159bf3edb252d37660"), looks := false }, kinds := [], alts := [], laidByText := true, laidKinds := [.data, .data, .data], laidTests := true, laidLooks := .later }
def AuditCountsCardSaid : Prop := Claim7.holds Tryz.pinned (.plain (OpenSpec.ofChange auditCountsSpec)) auditCountsCard

/-- THE TIED CARD OF 'sluicelaw18.AuditFloats'. -/
def auditFloatsCard : Claim7 := { stood := { row := auditFloatsRow, standIns := [], harness := (true, "029171af3050aa22cadc300c885f6d5c76546c50130bea159bf3edb252d37660"), looks := false }, kinds := [], alts := [], laidByText := true, laidKinds := [.data, .data], laidTests := true, laidLooks := .later }
def AuditFloatsCardSaid : Prop := Claim7.holds Tryz.pinned (.plain (OpenSpec.ofChange auditFloatsSpec)) auditFloatsCard

/-- THE TIED CARD OF 'sluicelaw18.AuditExact'. -/
def auditExactCard : Claim7 := { stood := { row := auditExactRow, standIns := [], harness := (true, "029171af3050aa22cadc300c885f6d5c76546c50130bea159bf3edb252d37660"), looks := false }, kinds := [], alts := [], laidByText := true, laidKinds := [.data, .data, .data], laidTests := true, laidLooks := .later }
def AuditExactCardSaid : Prop := Claim7.holds Tryz.pinned (.plain (OpenSpec.ofChange auditExactSpec)) auditExactCard

/-- THE SECOND FORM's CARD OF 'sluicelaw18.AuditCounts'. -/
def auditCountsUptoCard : Claim7 := { stood := { row := auditCountsUptoRow, standIns := [], harness := (true, "029171af3050aa22cadc300c885f6d5c76546c50130bea159bf3edb252d37660"), looks := false }, kinds := [], alts := [], laidByText := true, laidKinds := [.data, .data, .data], laidTests := true, laidLooks := .later }
def AuditCountsUptoCardSaid : Prop := Claim7.holds Tryz.pinned (.plain (OpenSpec.upto auditCountsSpec)) auditCountsUptoCard

/-- THE SECOND FORM's CARD OF 'sluicelaw18.AuditFloats'. -/
def auditFloatsUptoCard : Claim7 := { stood := { row := auditFloatsUptoRow, standIns := [], harness := (true, "029171af3050aa22cadc300c885f6d5c76546c50130bea159bf3edb252d37660"), looks := false }, kinds := [], alts := [], laidByText := true, laidKinds := [.data, .data], laidTests := true, laidLooks := .later }
def AuditFloatsUptoCardSaid : Prop := Claim7.holds Tryz.pinned (.plain (OpenSpec.upto auditFloatsSpec)) auditFloatsUptoCard

/-- THE SECOND FORM's CARD OF 'sluicelaw18.AuditExact'. -/
def auditExactUptoCard : Claim7 := { stood := { row := auditExactUptoRow, standIns := [], harness := (true, "029171af3050aa22cadc300c885f6d5c76546c50130bea159bf3edb252d37660"), looks := false }, kinds := [], alts := [], laidByText := true, laidKinds := [.data, .data, .data], laidTests := true, laidLooks := .later }
def AuditExactUptoCardSaid : Prop := Claim7.holds Tryz.pinned (.plain (OpenSpec.upto auditExactSpec)) auditExactUptoCard
end Rows
end Go.Proofs.YtgoigcpdfecfhaaGreatDoor
