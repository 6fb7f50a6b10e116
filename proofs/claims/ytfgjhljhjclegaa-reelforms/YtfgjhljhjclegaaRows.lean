/-
  No cell of these rows narrows 'for every input' (looked for: loops, veiled, ifaces, maps, wideKeys, modest, calm, conditions, laid).
  DERIVED. THE GIVEN ROWS OF THIS SEAT. 3 by the template 'for every input the law returns true; each argument reads behind the call as it read before'; 0 by the template 'total and deterministic' (their statements: YtfgjhljhjclegaaTotals.lean).
  GIVEN WITH THE SEED: the statements are not yours to turn. If you find one false, say at which input.
  Laid BY PROGRAM, IN A SANDBOX (cutbox-rows.mjs): the forced cells as the released guide's own fill.sh prints them over the translation 3f41cde233dda771… (all of the seat's roots in one cut). By AI agents, Wed Nov 11 2026. No macro, syntax, notation, axiom, sorry.
-/
import Derived.Test.YtfgjhljhjclegaaChecked
import GoSem.Claim
import GoSem.ClaimJoined
import GoSem.ClaimMapViews
import Derived.JoinedTies
import Derived.KernelRfl
namespace Go.Proofs.Ytfgjhljhjclegaa
/- THE CELL 'sum', in the pinned program and in every row, IS THE sha256 OF THE DUMP (.gsa) THAT YtfgjhljhjclegaaProg.lean LOADS. Nothing in Lean hashes anything: it is a label: what it is worth is what the hold of that sum in a sandbox is worth. -/
noncomputable def Try.pinned : Pinned := { name := "ytfgjhljhjclegaa", sum := "3f41cde233dda7710b574083f1d97544e00e3821016f3c62a7b6e7239131e5bc", checked := Try.checked }
namespace Rows
def none {H : Type} : Left H := { results := [], args := [] }

/-- 'sluicelaw06.ReelTexts': WHATEVER THE INPUT: true; the input reads as it did. -/
def reelTextsSpec : ChangeSpec := { name := "reelTexts", fn := fun _ => fun
  | [d1, d2, d3] => { results := [.lit (.bool true)], args := [d1, d2, d3] }
  | _ => none }
def reelTextsRow : OpenClaim := { program := "ytfgjhljhjclegaa", sum := "3f41cde233dda7710b574083f1d97544e00e3821016f3c62a7b6e7239131e5bc", func := "sluice/sluicelaw06.ReelTexts", spec := "reelTexts", unfollowed := true, recurses := true, apart := false }
def ReelTextsSaid : Prop := reelTextsRow.holds Try.pinned (OpenSpec.ofChange reelTextsSpec)

/-- ITS FALSE NEIGHBOUR: 'it returns false'. Refute it at one input. -/
def reelTextsWrong : ChangeSpec := { name := "reelTexts", fn := fun _ => fun
  | [d1, d2, d3] => { results := [.lit (.bool false)], args := [d1, d2, d3] }
  | _ => none }
def ReelTextsWrongFalsely : Prop := reelTextsRow.holds Try.pinned (OpenSpec.ofChange reelTextsWrong)

/-- 'sluicelaw06.ReelForms': WHATEVER THE INPUT: true; the input reads as it did. -/
def reelFormsSpec : ChangeSpec := { name := "reelForms", fn := fun _ => fun
  | [d1, d2, d3, d4, d5] => { results := [.lit (.bool true)], args := [d1, d2, d3, d4, d5] }
  | _ => none }
def reelFormsRow : OpenClaim := { program := "ytfgjhljhjclegaa", sum := "3f41cde233dda7710b574083f1d97544e00e3821016f3c62a7b6e7239131e5bc", func := "sluice/sluicelaw06.ReelForms", spec := "reelForms", unfollowed := true, recurses := true, apart := false }
def ReelFormsSaid : Prop := reelFormsRow.holds Try.pinned (OpenSpec.ofChange reelFormsSpec)

/-- ITS FALSE NEIGHBOUR: 'it returns false'. Refute it at one input. -/
def reelFormsWrong : ChangeSpec := { name := "reelForms", fn := fun _ => fun
  | [d1, d2, d3, d4, d5] => { results := [.lit (.bool false)], args := [d1, d2, d3, d4, d5] }
  | _ => none }
def ReelFormsWrongFalsely : Prop := reelFormsRow.holds Try.pinned (OpenSpec.ofChange reelFormsWrong)

/-- 'sluicelaw06.ReelPublished': WHATEVER THE INPUT: true; the input reads as it did. -/
def reelPublishedSpec : ChangeSpec := { name := "reelPublished", fn := fun _ => fun
  | [d] => { results := [.lit (.bool true)], args := [d] }
  | _ => none }
def reelPublishedRow : OpenClaim := { program := "ytfgjhljhjclegaa", sum := "3f41cde233dda7710b574083f1d97544e00e3821016f3c62a7b6e7239131e5bc", func := "sluice/sluicelaw06.ReelPublished", spec := "reelPublished", inPlace := ["maps.clone"], unfollowed := true, recurses := true, apart := false }
def ReelPublishedSaid : Prop := reelPublishedRow.holds Try.pinned (OpenSpec.ofChange reelPublishedSpec)

/-- ITS FALSE NEIGHBOUR: 'it returns false'. Refute it at one input. -/
def reelPublishedWrong : ChangeSpec := { name := "reelPublished", fn := fun _ => fun
  | [d] => { results := [.lit (.bool false)], args := [d] }
  | _ => none }
def ReelPublishedWrongFalsely : Prop := reelPublishedRow.holds Try.pinned (OpenSpec.ofChange reelPublishedWrong)

/- THE SECOND FORM. 'bulk': how many values and letters a reading holds, each counted each time it is reached (what is shared counts as often as it is met; a slice's spare places count too). A statement '..UptoSaid' is the law's where the arguments, and the package variables that the reading takes, are together of bulk at most 1048576: NARROWER than '..Said'. Prove '..Said' where nothing that the law and all that it calls make is longer than what came in: it says more and counts as full. Else prove '..UptoSaid'. A law counts once. -/
mutual
def uptoBulk {H : Type} : DataW H → Nat
  | .lit (.string bytes) => bytes.length + 1
  | .lit _ => 1
  | .nil => 1
  | .ptr d => uptoBulk d + 1
  | .slice elems spare => uptoBulkAll elems + uptoBulkAll spare + 1
  | .agg parts => uptoBulkAll parts + 1
  | .iface _ d => uptoBulk d + 1
  | .map entries => uptoBulkEntries entries + 1
  | .held _ => 1
def uptoBulkAll {H : Type} : List (DataW H) → Nat
  | [] => 0
  | d :: r => uptoBulk d + uptoBulkAll r
def uptoBulkEntries {H : Type} : List (Lit × DataW H) → Nat
  | [] => 0
  | x :: r => uptoBulkEntry x + uptoBulkEntries r
def uptoBulkEntry {H : Type} : Lit × DataW H → Nat
  | (.string bytes, d) => bytes.length + uptoBulk d + 1
  | (_, d) => uptoBulk d + 1
 end
def uptoSmall : (H : Type) → List (DataW H) → Bool := fun _ ds => decide (uptoBulkAll ds ≤ 1048576)
def OpenSpec.upto (s : _root_.Go.ChangeSpec) : _root_.Go.OpenSpec := { _root_.Go.OpenSpec.ofChange s with cond := some uptoSmall }

/-- 'sluicelaw06.ReelTexts', WHERE WHAT IT READS IS OF BULK AT MOST 1048576: true; the input reads as it did. -/
def reelTextsUptoRow : OpenClaim := { program := "ytfgjhljhjclegaa", sum := "3f41cde233dda7710b574083f1d97544e00e3821016f3c62a7b6e7239131e5bc", func := "sluice/sluicelaw06.ReelTexts", spec := "reelTexts", unfollowed := true, recurses := true, apart := false, narrowed := true }
def ReelTextsUptoSaid : Prop := reelTextsUptoRow.holds Try.pinned (OpenSpec.upto reelTextsSpec)

/-- 'sluicelaw06.ReelForms', WHERE WHAT IT READS IS OF BULK AT MOST 1048576: true; the input reads as it did. -/
def reelFormsUptoRow : OpenClaim := { program := "ytfgjhljhjclegaa", sum := "3f41cde233dda7710b574083f1d97544e00e3821016f3c62a7b6e7239131e5bc", func := "sluice/sluicelaw06.ReelForms", spec := "reelForms", unfollowed := true, recurses := true, apart := false, narrowed := true }
def ReelFormsUptoSaid : Prop := reelFormsUptoRow.holds Try.pinned (OpenSpec.upto reelFormsSpec)

/-- 'sluicelaw06.ReelPublished', WHERE WHAT IT READS IS OF BULK AT MOST 1048576: true; the input reads as it did. -/
def reelPublishedUptoRow : OpenClaim := { program := "ytfgjhljhjclegaa", sum := "3f41cde233dda7710b574083f1d97544e00e3821016f3c62a7b6e7239131e5bc", func := "sluice/sluicelaw06.ReelPublished", spec := "reelPublished", inPlace := ["maps.clone"], unfollowed := true, recurses := true, apart := false, narrowed := true }
def ReelPublishedUptoSaid : Prop := reelPublishedUptoRow.holds Try.pinned (OpenSpec.upto reelPublishedSpec)

end Rows
end Go.Proofs.Ytfgjhljhjclegaa
