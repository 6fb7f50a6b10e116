/-
  NARROWER THAN 'FOR EVERY INPUT', by the rows' own cells (each row's printed sentence says how): PlatterNil: laid · PlatterTwo: laid · PlatterFiles: laid.
  DERIVED. THE GIVEN ROWS OF THIS SEAT. 3 by the template 'for every input the law returns true; each argument reads behind the call as it read before'; 0 by the template 'total and deterministic' (their statements: YtiljdiagabepbaaGreatDoorTotals.lean).
  GIVEN WITH THE SEED: the statements are not yours to turn. If you find one false, say at which input.
  Laid BY PROGRAM, IN A SANDBOX (cutbox-rows.mjs): the forced cells as the released guide's own fill.sh prints them over the translation fc3c49253d9e751f… (all of the seat's roots in one cut). By AI agents, Wed Nov 11 2026. No macro, syntax, notation, axiom, sorry.
-/
import Derived.Test.YtiljdiagabepbaaGreatDoorChecked
import GoSem.Claim
import GoSem.ClaimJoined
import GoSem.ClaimMapViews
import Derived.JoinedTies
import Derived.KernelRfl
namespace Go.Proofs.YtiljdiagabepbaaGreatDoor
/- THE CELL 'sum', in the pinned program and in every row, IS THE sha256 OF THE DUMP (.gsa) THAT YtiljdiagabepbaaGreatDoorProg.lean LOADS. Nothing in Lean hashes anything: it is a label: what it is worth is what the hold of that sum in a sandbox is worth. -/
noncomputable def Tryz.pinned : Pinned := { name := "ytiljdiagabepbaagreatdoor", sum := "fc3c49253d9e751f3d3968cde995db60bd30956130002528484250f7970ca316", checked := Tryz.checked }
namespace Rows
def none {H : Type} : Left H := { results := [], args := [] }

/- WHAT THE LISTED PACKAGE-LEVEL VARIABLES READ AS WHEN THE CALL BEGINS. Each datum BY PROGRAM (the guide's laid-datum.mjs) off the statement by which the dump's own 'gosem.cut.vars' lays the variable. In a bare row this is a premise. The card (YtiljdiagabepbaaGreatDoorCards.lean) ties it to the program's text. -/
def laid_sluice_platter_fits {H : Type} : DataW H := .agg [.lit (.int .u8 0), .lit (.int .u8 1), .lit (.int .u8 1), .lit (.int .u8 1), .lit (.int .u8 2), .lit (.int .u8 2), .lit (.int .u8 4), .lit (.int .u8 3), .lit (.int .u8 15), .lit (.int .u8 15)]

/-- 'sluicelaw03.PlatterNil': WHATEVER THE INPUT: true; the input reads as it did. -/
def platterNilSpec : ChangeSpec := { name := "platterNil", fn := fun _ => fun
  | [d] => { results := [.lit (.bool true)], args := [d] }
  | _ => none }
def platterNilRow : OpenClaim := { program := "ytiljdiagabepbaagreatdoor", sum := "fc3c49253d9e751f3d3968cde995db60bd30956130002528484250f7970ca316", func := "sluice/sluicelaw03.PlatterNil", spec := "platterNil", inPlace := ["maps.clone"], unfollowed := true, recurses := true, named := ["sluice/platter.fits"], apart := false, laid := [("sluice/platter.fits", laid_sluice_platter_fits)] }
def PlatterNilSaid : Prop := platterNilRow.holds Tryz.pinned (OpenSpec.ofChange platterNilSpec)

/-- ITS FALSE NEIGHBOUR: 'it returns false'. Refute it at one input. -/
def platterNilWrong : ChangeSpec := { name := "platterNil", fn := fun _ => fun
  | [d] => { results := [.lit (.bool false)], args := [d] }
  | _ => none }
def PlatterNilWrongFalsely : Prop := platterNilRow.holds Tryz.pinned (OpenSpec.ofChange platterNilWrong)

/-- 'sluicelaw03.PlatterTwo': WHATEVER THE INPUT: true; the input reads as it did. -/
def platterTwoSpec : ChangeSpec := { name := "platterTwo", fn := fun _ => fun
  | [d1, d2] => { results := [.lit (.bool true)], args := [d1, d2] }
  | _ => none }
def platterTwoRow : OpenClaim := { program := "ytiljdiagabepbaagreatdoor", sum := "fc3c49253d9e751f3d3968cde995db60bd30956130002528484250f7970ca316", func := "sluice/sluicelaw03.PlatterTwo", spec := "platterTwo", inPlace := ["maps.clone"], unfollowed := true, recurses := true, named := ["sluice/platter.fits"], apart := false, laid := [("sluice/platter.fits", laid_sluice_platter_fits)] }
def PlatterTwoSaid : Prop := platterTwoRow.holds Tryz.pinned (OpenSpec.ofChange platterTwoSpec)

/-- ITS FALSE NEIGHBOUR: 'it returns false'. Refute it at one input. -/
def platterTwoWrong : ChangeSpec := { name := "platterTwo", fn := fun _ => fun
  | [d1, d2] => { results := [.lit (.bool false)], args := [d1, d2] }
  | _ => none }
def PlatterTwoWrongFalsely : Prop := platterTwoRow.holds Tryz.pinned (OpenSpec.ofChange platterTwoWrong)

/-- 'sluicelaw03.PlatterFiles': WHATEVER THE INPUT: true; the input reads as it did. -/
def platterFilesSpec : ChangeSpec := { name := "platterFiles", fn := fun _ => fun
  | [d] => { results := [.lit (.bool true)], args := [d] }
  | _ => none }
def platterFilesRow : OpenClaim := { program := "ytiljdiagabepbaagreatdoor", sum := "fc3c49253d9e751f3d3968cde995db60bd30956130002528484250f7970ca316", func := "sluice/sluicelaw03.PlatterFiles", spec := "platterFiles", inPlace := ["maps.clone"], unfollowed := true, recurses := true, named := ["sluice/platter.fits"], apart := false, laid := [("sluice/platter.fits", laid_sluice_platter_fits)] }
def PlatterFilesSaid : Prop := platterFilesRow.holds Tryz.pinned (OpenSpec.ofChange platterFilesSpec)

/-- ITS FALSE NEIGHBOUR: 'it returns false'. Refute it at one input. -/
def platterFilesWrong : ChangeSpec := { name := "platterFiles", fn := fun _ => fun
  | [d] => { results := [.lit (.bool false)], args := [d] }
  | _ => none }
def PlatterFilesWrongFalsely : Prop := platterFilesRow.holds Tryz.pinned (OpenSpec.ofChange platterFilesWrong)

/- THE SECOND FORM. 'bulk': how many values and letters a reading holds, each counted each time it is reached (what is shared counts as often as it is met; a slice's spare places count too). A statement '..UptoSaid' is the law's where the arguments, and the package variables that the reading takes, are together of bulk at most 1048576: NARROWER than '..Said'. Prove '..Said' where nothing that the law and all that it calls make is longer than what came in: it says more and counts as full. Else prove '..UptoSaid'. A law counts once. -/
mutual
def uptoBulk {H : Type} : DataW H → Nat
  | .lit (.string bytes) => bytes.length + 1
  | .lit _ => 1
  | .nil => 1
  | .ptr d => uptoBulk d + 1
  | .slice elems spare => uptoBulkAll elems + uptoBulkAll spare + 1
  | .agg parts => uptoBulkAll parts + 1
  | .iface _ d => uptoBulk d + 1
  | .map entries => uptoBulkEntries entries + 1
  | .held _ => 1
def uptoBulkAll {H : Type} : List (DataW H) → Nat
  | [] => 0
  | d :: r => uptoBulk d + uptoBulkAll r
def uptoBulkEntries {H : Type} : List (Lit × DataW H) → Nat
  | [] => 0
  | x :: r => uptoBulkEntry x + uptoBulkEntries r
def uptoBulkEntry {H : Type} : Lit × DataW H → Nat
  | (.string bytes, d) => bytes.length + uptoBulk d + 1
  | (_, d) => uptoBulk d + 1
 end
def uptoSmall : (H : Type) → List (DataW H) → Bool := fun _ ds => decide (uptoBulkAll ds ≤ 1048576)
def OpenSpec.upto (s : _root_.Go.ChangeSpec) : _root_.Go.OpenSpec := { _root_.Go.OpenSpec.ofChange s with cond := some uptoSmall }

/-- 'sluicelaw03.PlatterNil', WHERE WHAT IT READS IS OF BULK AT MOST 1048576: true; the input reads as it did. -/
def platterNilUptoRow : OpenClaim := { program := "ytiljdiagabepbaagreatdoor", sum := "fc3c49253d9e751f3d3968cde995db60bd30956130002528484250f7970ca316", func := "sluice/sluicelaw03.PlatterNil", spec := "platterNil", inPlace := ["maps.clone"], unfollowed := true, recurses := true, named := ["sluice/platter.fits"], apart := false, laid := [("sluice/platter.fits", laid_sluice_platter_fits)], narrowed := true }
def PlatterNilUptoSaid : Prop := platterNilUptoRow.holds Tryz.pinned (OpenSpec.upto platterNilSpec)

/-- 'sluicelaw03.PlatterTwo', WHERE WHAT IT READS IS OF BULK AT MOST 1048576: true; the input reads as it did. -/
def platterTwoUptoRow : OpenClaim := { program := "ytiljdiagabepbaagreatdoor", sum := "fc3c49253d9e751f3d3968cde995db60bd30956130002528484250f7970ca316", func := "sluice/sluicelaw03.PlatterTwo", spec := "platterTwo", inPlace := ["maps.clone"], unfollowed := true, recurses := true, named := ["sluice/platter.fits"], apart := false, laid := [("sluice/platter.fits", laid_sluice_platter_fits)], narrowed := true }
def PlatterTwoUptoSaid : Prop := platterTwoUptoRow.holds Tryz.pinned (OpenSpec.upto platterTwoSpec)

/-- 'sluicelaw03.PlatterFiles', WHERE WHAT IT READS IS OF BULK AT MOST 1048576: true; the input reads as it did. -/
def platterFilesUptoRow : OpenClaim := { program := "ytiljdiagabepbaagreatdoor", sum := "fc3c49253d9e751f3d3968cde995db60bd30956130002528484250f7970ca316", func := "sluice/sluicelaw03.PlatterFiles", spec := "platterFiles", inPlace := ["maps.clone"], unfollowed := true, recurses := true, named := ["sluice/platter.fits"], apart := false, laid := [("sluice/platter.fits", laid_sluice_platter_fits)], narrowed := true }
def PlatterFilesUptoSaid : Prop := platterFilesUptoRow.holds Tryz.pinned (OpenSpec.upto platterFilesSpec)

end Rows
end Go.Proofs.YtiljdiagabepbaaGreatDoor
