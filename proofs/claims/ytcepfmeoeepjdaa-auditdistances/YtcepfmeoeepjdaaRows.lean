/-
  No cell of these rows narrows 'for every input' (looked for: loops, veiled, ifaces, maps, wideKeys, modest, calm, conditions, laid).
  DERIVED. THE GIVEN ROWS OF THIS SEAT. 6 by the template 'for every input the law returns true; each argument reads behind the call as it read before'; 0 by the template 'total and deterministic' (their statements: YtcepfmeoeepjdaaTotals.lean).
  GIVEN WITH THE SEED: the statements are not yours to turn. If you find one false, say at which input.
  Laid BY PROGRAM, IN A SANDBOX (cutbox-rows.mjs): the forced cells as the released guide's own fill.sh prints them over the translation 4401c4872e2eb67e… (all of the seat's roots in one cut). By AI agents, Wed Nov 11 2026. No macro, syntax, notation, axiom, sorry.
-/
import Derived.Test.YtcepfmeoeepjdaaChecked
import GoSem.Claim
import GoSem.ClaimJoined
import GoSem.ClaimMapViews
import Derived.JoinedTies
import Derived.KernelRfl
namespace Go.Proofs.Ytcepfmeoeepjdaa
/- THE CELL 'sum', in the pinned program and in every row, IS THE sha256 OF THE DUMP (.gsa) THAT YtcepfmeoeepjdaaProg.lean LOADS. Nothing in Lean hashes anything: it is a label: what it is worth is what the hold of that sum in a sandbox is worth. -/
noncomputable def Try.pinned : Pinned := { name := "ytcepfmeoeepjdaa", sum := "4401c4872e2eb67e749a0f4540c056393211aa9ee66e6e7c845750b6a5d6aca4", checked := Try.checked }
namespace Rows
def none {H : Type} : Left H := { results := [], args := [] }

/-- 'sluicelaw18.AuditLabels': WHATEVER THE INPUT: true; the input reads as it did. -/
def auditLabelsSpec : ChangeSpec := { name := "auditLabels", fn := fun _ => fun
  | [d] => { results := [.lit (.bool true)], args := [d] }
  | _ => none }
def auditLabelsRow : OpenClaim := { program := "ytcepfmeoeepjdaa", sum := "4401c4872e2eb67e749a0f4540c056393211aa9ee66e6e7c845750b6a5d6aca4", func := "sluice/sluicelaw18.AuditLabels", spec := "auditLabels", unfollowed := true, recurses := true, apart := false }
def AuditLabelsSaid : Prop := auditLabelsRow.holds Try.pinned (OpenSpec.ofChange auditLabelsSpec)

/-- ITS FALSE NEIGHBOUR: 'it returns false'. Refute it at one input. -/
def auditLabelsWrong : ChangeSpec := { name := "auditLabels", fn := fun _ => fun
  | [d] => { results := [.lit (.bool false)], args := [d] }
  | _ => none }
def AuditLabelsWrongFalsely : Prop := auditLabelsRow.holds Try.pinned (OpenSpec.ofChange auditLabelsWrong)

/-- 'sluicelaw18.AuditCores': WHATEVER THE INPUT: true; the input reads as it did. -/
def auditCoresSpec : ChangeSpec := { name := "auditCores", fn := fun _ => fun
  | [d] => { results := [.lit (.bool true)], args := [d] }
  | _ => none }
def auditCoresRow : OpenClaim := { program := "ytcepfmeoeepjdaa", sum := "4401c4872e2eb67e749a0f4540c056393211aa9ee66e6e7c845750b6a5d6aca4", func := "sluice/sluicelaw18.AuditCores", spec := "auditCores", unfollowed := true, recurses := true, apart := false }
def AuditCoresSaid : Prop := auditCoresRow.holds Try.pinned (OpenSpec.ofChange auditCoresSpec)

/-- ITS FALSE NEIGHBOUR: 'it returns false'. Refute it at one input. -/
def auditCoresWrong : ChangeSpec := { name := "auditCores", fn := fun _ => fun
  | [d] => { results := [.lit (.bool false)], args := [d] }
  | _ => none }
def AuditCoresWrongFalsely : Prop := auditCoresRow.holds Try.pinned (OpenSpec.ofChange auditCoresWrong)

/-- 'sluicelaw18.AuditSets': WHATEVER THE INPUT: true; the input reads as it did. -/
def auditSetsSpec : ChangeSpec := { name := "auditSets", fn := fun _ => fun
  | [d] => { results := [.lit (.bool true)], args := [d] }
  | _ => none }
def auditSetsRow : OpenClaim := { program := "ytcepfmeoeepjdaa", sum := "4401c4872e2eb67e749a0f4540c056393211aa9ee66e6e7c845750b6a5d6aca4", func := "sluice/sluicelaw18.AuditSets", spec := "auditSets", unfollowed := true, recurses := true, apart := false }
def AuditSetsSaid : Prop := auditSetsRow.holds Try.pinned (OpenSpec.ofChange auditSetsSpec)

/-- ITS FALSE NEIGHBOUR: 'it returns false'. Refute it at one input. -/
def auditSetsWrong : ChangeSpec := { name := "auditSets", fn := fun _ => fun
  | [d] => { results := [.lit (.bool false)], args := [d] }
  | _ => none }
def AuditSetsWrongFalsely : Prop := auditSetsRow.holds Try.pinned (OpenSpec.ofChange auditSetsWrong)

/-- 'sluicelaw18.AuditDistances': WHATEVER THE INPUT: true; the input reads as it did. -/
def auditDistancesSpec : ChangeSpec := { name := "auditDistances", fn := fun _ => fun
  | [d] => { results := [.lit (.bool true)], args := [d] }
  | _ => none }
def auditDistancesRow : OpenClaim := { program := "ytcepfmeoeepjdaa", sum := "4401c4872e2eb67e749a0f4540c056393211aa9ee66e6e7c845750b6a5d6aca4", func := "sluice/sluicelaw18.AuditDistances", spec := "auditDistances", unfollowed := true, recurses := true, apart := false }
def AuditDistancesSaid : Prop := auditDistancesRow.holds Try.pinned (OpenSpec.ofChange auditDistancesSpec)

/-- ITS FALSE NEIGHBOUR: 'it returns false'. Refute it at one input. -/
def auditDistancesWrong : ChangeSpec := { name := "auditDistances", fn := fun _ => fun
  | [d] => { results := [.lit (.bool false)], args := [d] }
  | _ => none }
def AuditDistancesWrongFalsely : Prop := auditDistancesRow.holds Try.pinned (OpenSpec.ofChange auditDistancesWrong)

/-- 'sluicelaw18.AuditSccs': WHATEVER THE INPUT: true; the input reads as it did. -/
def auditSccsSpec : ChangeSpec := { name := "auditSccs", fn := fun _ => fun
  | [d] => { results := [.lit (.bool true)], args := [d] }
  | _ => none }
def auditSccsRow : OpenClaim := { program := "ytcepfmeoeepjdaa", sum := "4401c4872e2eb67e749a0f4540c056393211aa9ee66e6e7c845750b6a5d6aca4", func := "sluice/sluicelaw18.AuditSccs", spec := "auditSccs", unfollowed := true, recurses := true, apart := false }
def AuditSccsSaid : Prop := auditSccsRow.holds Try.pinned (OpenSpec.ofChange auditSccsSpec)

/-- ITS FALSE NEIGHBOUR: 'it returns false'. Refute it at one input. -/
def auditSccsWrong : ChangeSpec := { name := "auditSccs", fn := fun _ => fun
  | [d] => { results := [.lit (.bool false)], args := [d] }
  | _ => none }
def AuditSccsWrongFalsely : Prop := auditSccsRow.holds Try.pinned (OpenSpec.ofChange auditSccsWrong)

/-- 'sluicelaw18.AuditPlaced': WHATEVER THE INPUT: true; the input reads as it did. -/
def auditPlacedSpec : ChangeSpec := { name := "auditPlaced", fn := fun _ => fun
  | [d1, d2] => { results := [.lit (.bool true)], args := [d1, d2] }
  | _ => none }
def auditPlacedRow : OpenClaim := { program := "ytcepfmeoeepjdaa", sum := "4401c4872e2eb67e749a0f4540c056393211aa9ee66e6e7c845750b6a5d6aca4", func := "sluice/sluicelaw18.AuditPlaced", spec := "auditPlaced", unfollowed := true, recurses := true, apart := false }
def AuditPlacedSaid : Prop := auditPlacedRow.holds Try.pinned (OpenSpec.ofChange auditPlacedSpec)

/-- ITS FALSE NEIGHBOUR: 'it returns false'. Refute it at one input. -/
def auditPlacedWrong : ChangeSpec := { name := "auditPlaced", fn := fun _ => fun
  | [d1, d2] => { results := [.lit (.bool false)], args := [d1, d2] }
  | _ => none }
def AuditPlacedWrongFalsely : Prop := auditPlacedRow.holds Try.pinned (OpenSpec.ofChange auditPlacedWrong)

/- THE SECOND FORM. 'bulk': how many values and letters a reading holds, each counted each time it is reached (what is shared counts as often as it is met; a slice's spare places count too). A statement '..UptoSaid' is the law's where the arguments, and the package variables that the reading takes, are together of bulk at most 1048576: NARROWER than '..Said'. Prove '..Said' where nothing that the law and all that it calls make is longer than what came in: it says more and counts as full. Else prove '..UptoSaid'. A law counts once. -/
mutual
def uptoBulk {H : Type} : DataW H → Nat
  | .lit (.string bytes) => bytes.length + 1
  | .lit _ => 1
  | .nil => 1
  | .ptr d => uptoBulk d + 1
  | .slice elems spare => uptoBulkAll elems + uptoBulkAll spare + 1
  | .agg parts => uptoBulkAll parts + 1
  | .iface _ d => uptoBulk d + 1
  | .map entries => uptoBulkEntries entries + 1
  | .held _ => 1
def uptoBulkAll {H : Type} : List (DataW H) → Nat
  | [] => 0
  | d :: r => uptoBulk d + uptoBulkAll r
def uptoBulkEntries {H : Type} : List (Lit × DataW H) → Nat
  | [] => 0
  | x :: r => uptoBulkEntry x + uptoBulkEntries r
def uptoBulkEntry {H : Type} : Lit × DataW H → Nat
  | (.string bytes, d) => bytes.length + uptoBulk d + 1
  | (_, d) => uptoBulk d + 1
 end
def uptoSmall : (H : Type) → List (DataW H) → Bool := fun _ ds => decide (uptoBulkAll ds ≤ 1048576)
def OpenSpec.upto (s : _root_.Go.ChangeSpec) : _root_.Go.OpenSpec := { _root_.Go.OpenSpec.ofChange s with cond := some uptoSmall }

/-- 'sluicelaw18.AuditLabels', WHERE WHAT IT READS IS OF BULK AT MOST 1048576: true; the input reads as it did. -/
def auditLabelsUptoRow : OpenClaim := { program := "ytcepfmeoeepjdaa", sum := "4401c4872e2eb67e749a0f4540c056393211aa9ee66e6e7c845750b6a5d6aca4", func := "sluice/sluicelaw18.AuditLabels", spec := "auditLabels", unfollowed := true, recurses := true, apart := false, narrowed := true }
def AuditLabelsUptoSaid : Prop := auditLabelsUptoRow.holds Try.pinned (OpenSpec.upto auditLabelsSpec)

/-- 'sluicelaw18.AuditCores', WHERE WHAT IT READS IS OF BULK AT MOST 1048576: true; the input reads as it did. -/
def auditCoresUptoRow : OpenClaim := { program := "ytcepfmeoeepjdaa", sum := "4401c4872e2eb67e749a0f4540c056393211aa9ee66e6e7c845750b6a5d6aca4", func := "sluice/sluicelaw18.AuditCores", spec := "auditCores", unfollowed := true, recurses := true, apart := false, narrowed := true }
def AuditCoresUptoSaid : Prop := auditCoresUptoRow.holds Try.pinned (OpenSpec.upto auditCoresSpec)

/-- 'sluicelaw18.AuditSets', WHERE WHAT IT READS IS OF BULK AT MOST 1048576: true; the input reads as it did. -/
def auditSetsUptoRow : OpenClaim := { program := "ytcepfmeoeepjdaa", sum := "4401c4872e2eb67e749a0f4540c056393211aa9ee66e6e7c845750b6a5d6aca4", func := "sluice/sluicelaw18.AuditSets", spec := "auditSets", unfollowed := true, recurses := true, apart := false, narrowed := true }
def AuditSetsUptoSaid : Prop := auditSetsUptoRow.holds Try.pinned (OpenSpec.upto auditSetsSpec)

/-- 'sluicelaw18.AuditDistances', WHERE WHAT IT READS IS OF BULK AT MOST 1048576: true; the input reads as it did. -/
def auditDistancesUptoRow : OpenClaim := { program := "ytcepfmeoeepjdaa", sum := "4401c4872e2eb67e749a0f4540c056393211aa9ee66e6e7c845750b6a5d6aca4", func := "sluice/sluicelaw18.AuditDistances", spec := "auditDistances", unfollowed := true, recurses := true, apart := false, narrowed := true }
def AuditDistancesUptoSaid : Prop := auditDistancesUptoRow.holds Try.pinned (OpenSpec.upto auditDistancesSpec)

/-- 'sluicelaw18.AuditSccs', WHERE WHAT IT READS IS OF BULK AT MOST 1048576: true; the input reads as it did. -/
def auditSccsUptoRow : OpenClaim := { program := "ytcepfmeoeepjdaa", sum := "4401c4872e2eb67e749a0f4540c056393211aa9ee66e6e7c845750b6a5d6aca4", func := "sluice/sluicelaw18.AuditSccs", spec := "auditSccs", unfollowed := true, recurses := true, apart := false, narrowed := true }
def AuditSccsUptoSaid : Prop := auditSccsUptoRow.holds Try.pinned (OpenSpec.upto auditSccsSpec)

/-- 'sluicelaw18.AuditPlaced', WHERE WHAT IT READS IS OF BULK AT MOST 1048576: true; the input reads as it did. -/
def auditPlacedUptoRow : OpenClaim := { program := "ytcepfmeoeepjdaa", sum := "4401c4872e2eb67e749a0f4540c056393211aa9ee66e6e7c845750b6a5d6aca4", func := "sluice/sluicelaw18.AuditPlaced", spec := "auditPlaced", unfollowed := true, recurses := true, apart := false, narrowed := true }
def AuditPlacedUptoSaid : Prop := auditPlacedUptoRow.holds Try.pinned (OpenSpec.upto auditPlacedSpec)

end Rows
end Go.Proofs.Ytcepfmeoeepjdaa
