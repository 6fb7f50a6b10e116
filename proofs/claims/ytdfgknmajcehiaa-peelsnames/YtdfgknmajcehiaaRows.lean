/-
  No cell of these rows narrows 'for every input' (looked for: loops, veiled, ifaces, maps, wideKeys, modest, calm, conditions, laid).
  DERIVED. THE GIVEN ROWS OF THIS SEAT. 3 by the template 'for every input the law returns true; each argument reads behind the call as it read before'; 0 by the template 'total and deterministic' (their statements: YtdfgknmajcehiaaTotals.lean).
  GIVEN WITH THE SEED: the statements are not yours to turn. If you find one false, say at which input.
  Laid BY PROGRAM, IN A SANDBOX (cutbox-rows.mjs): the forced cells as the released guide's own fill.sh prints them over the translation ffb15511df116e67… (all of the seat's roots in one cut). By AI agents, Wed Nov 11 2026. No macro, syntax, notation, axiom, sorry.
-/
import Derived.Test.YtdfgknmajcehiaaChecked
import GoSem.Claim
import GoSem.ClaimJoined
import GoSem.ClaimMapViews
import Derived.JoinedTies
import Derived.KernelRfl
namespace Go.Proofs.Ytdfgknmajcehiaa
/- THE CELL 'sum', in the pinned program and in every row, IS THE sha256 OF THE DUMP (.gsa) THAT YtdfgknmajcehiaaProg.lean LOADS. Nothing in Lean hashes anything: it is a label: what it is worth is what the hold of that sum in a sandbox is worth. -/
noncomputable def Try.pinned : Pinned := { name := "ytdfgknmajcehiaa", sum := "ffb15511df116e67dd27d9e745f9e0ebeebb2bad847bc645a60d53b7b6e12de1", checked := Try.checked }
namespace Rows
def none {H : Type} : Left H := { results := [], args := [] }

/-- 'sluicelaw14.PeelsTells': WHATEVER THE INPUT: true; the input reads as it did. -/
def peelsTellsSpec : ChangeSpec := { name := "peelsTells", fn := fun _ => fun
  | [d] => { results := [.lit (.bool true)], args := [d] }
  | _ => none }
def peelsTellsRow : OpenClaim := { program := "ytdfgknmajcehiaa", sum := "ffb15511df116e67dd27d9e745f9e0ebeebb2bad847bc645a60d53b7b6e12de1", func := "sluice/sluicelaw14.PeelsTells", spec := "peelsTells", apart := false }
def PeelsTellsSaid : Prop := peelsTellsRow.holds Try.pinned (OpenSpec.ofChange peelsTellsSpec)

/-- ITS FALSE NEIGHBOUR: 'it returns false'. Refute it at one input. -/
def peelsTellsWrong : ChangeSpec := { name := "peelsTells", fn := fun _ => fun
  | [d] => { results := [.lit (.bool false)], args := [d] }
  | _ => none }
def PeelsTellsWrongFalsely : Prop := peelsTellsRow.holds Try.pinned (OpenSpec.ofChange peelsTellsWrong)

/-- 'sluicelaw14.PeelsNames': WHATEVER THE INPUT: true; the input reads as it did. -/
def peelsNamesSpec : ChangeSpec := { name := "peelsNames", fn := fun _ => fun
  | [] => { results := [.lit (.bool true)], args := [] }
  | _ => none }
def peelsNamesRow : OpenClaim := { program := "ytdfgknmajcehiaa", sum := "ffb15511df116e67dd27d9e745f9e0ebeebb2bad847bc645a60d53b7b6e12de1", func := "sluice/sluicelaw14.PeelsNames", spec := "peelsNames", unfollowed := true, recurses := true, apart := false }
def PeelsNamesSaid : Prop := peelsNamesRow.holds Try.pinned (OpenSpec.ofChange peelsNamesSpec)

/-- ITS FALSE NEIGHBOUR: 'it returns false'. Refute it at one input. -/
def peelsNamesWrong : ChangeSpec := { name := "peelsNames", fn := fun _ => fun
  | [] => { results := [.lit (.bool false)], args := [] }
  | _ => none }
def PeelsNamesWrongFalsely : Prop := peelsNamesRow.holds Try.pinned (OpenSpec.ofChange peelsNamesWrong)

/-- 'sluicelaw14.PeelsOrders': WHATEVER THE INPUT: true; the input reads as it did. -/
def peelsOrdersSpec : ChangeSpec := { name := "peelsOrders", fn := fun _ => fun
  | [d1, d2, d3, d4] => { results := [.lit (.bool true)], args := [d1, d2, d3, d4] }
  | _ => none }
def peelsOrdersRow : OpenClaim := { program := "ytdfgknmajcehiaa", sum := "ffb15511df116e67dd27d9e745f9e0ebeebb2bad847bc645a60d53b7b6e12de1", func := "sluice/sluicelaw14.PeelsOrders", spec := "peelsOrders", apart := false }
def PeelsOrdersSaid : Prop := peelsOrdersRow.holds Try.pinned (OpenSpec.ofChange peelsOrdersSpec)

/-- ITS FALSE NEIGHBOUR: 'it returns false'. Refute it at one input. -/
def peelsOrdersWrong : ChangeSpec := { name := "peelsOrders", fn := fun _ => fun
  | [d1, d2, d3, d4] => { results := [.lit (.bool false)], args := [d1, d2, d3, d4] }
  | _ => none }
def PeelsOrdersWrongFalsely : Prop := peelsOrdersRow.holds Try.pinned (OpenSpec.ofChange peelsOrdersWrong)

/- THE SECOND FORM. 'bulk': how many values and letters a reading holds, each counted each time it is reached (what is shared counts as often as it is met; a slice's spare places count too). A statement '..UptoSaid' is the law's where the arguments, and the package variables that the reading takes, are together of bulk at most 1048576: NARROWER than '..Said'. Prove '..Said' where nothing that the law and all that it calls make is longer than what came in: it says more and counts as full. Else prove '..UptoSaid'. A law counts once. -/
mutual
def uptoBulk {H : Type} : DataW H → Nat
  | .lit (.string bytes) => bytes.length + 1
  | .lit _ => 1
  | .nil => 1
  | .ptr d => uptoBulk d + 1
  | .slice elems spare => uptoBulkAll elems + uptoBulkAll spare + 1
  | .agg parts => uptoBulkAll parts + 1
  | .iface _ d => uptoBulk d + 1
  | .map entries => uptoBulkEntries entries + 1
  | .held _ => 1
def uptoBulkAll {H : Type} : List (DataW H) → Nat
  | [] => 0
  | d :: r => uptoBulk d + uptoBulkAll r
def uptoBulkEntries {H : Type} : List (Lit × DataW H) → Nat
  | [] => 0
  | x :: r => uptoBulkEntry x + uptoBulkEntries r
def uptoBulkEntry {H : Type} : Lit × DataW H → Nat
  | (.string bytes, d) => bytes.length + uptoBulk d + 1
  | (_, d) => uptoBulk d + 1
 end
def uptoSmall : (H : Type) → List (DataW H) → Bool := fun _ ds => decide (uptoBulkAll ds ≤ 1048576)
def OpenSpec.upto (s : _root_.Go.ChangeSpec) : _root_.Go.OpenSpec := { _root_.Go.OpenSpec.ofChange s with cond := some uptoSmall }

/-- 'sluicelaw14.PeelsTells', WHERE WHAT IT READS IS OF BULK AT MOST 1048576: true; the input reads as it did. -/
def peelsTellsUptoRow : OpenClaim := { program := "ytdfgknmajcehiaa", sum := "ffb15511df116e67dd27d9e745f9e0ebeebb2bad847bc645a60d53b7b6e12de1", func := "sluice/sluicelaw14.PeelsTells", spec := "peelsTells", apart := false, narrowed := true }
def PeelsTellsUptoSaid : Prop := peelsTellsUptoRow.holds Try.pinned (OpenSpec.upto peelsTellsSpec)

/-- 'sluicelaw14.PeelsNames', WHERE WHAT IT READS IS OF BULK AT MOST 1048576: true; the input reads as it did. -/
def peelsNamesUptoRow : OpenClaim := { program := "ytdfgknmajcehiaa", sum := "ffb15511df116e67dd27d9e745f9e0ebeebb2bad847bc645a60d53b7b6e12de1", func := "sluice/sluicelaw14.PeelsNames", spec := "peelsNames", unfollowed := true, recurses := true, apart := false, narrowed := true }
def PeelsNamesUptoSaid : Prop := peelsNamesUptoRow.holds Try.pinned (OpenSpec.upto peelsNamesSpec)

/-- 'sluicelaw14.PeelsOrders', WHERE WHAT IT READS IS OF BULK AT MOST 1048576: true; the input reads as it did. -/
def peelsOrdersUptoRow : OpenClaim := { program := "ytdfgknmajcehiaa", sum := "ffb15511df116e67dd27d9e745f9e0ebeebb2bad847bc645a60d53b7b6e12de1", func := "sluice/sluicelaw14.PeelsOrders", spec := "peelsOrders", apart := false, narrowed := true }
def PeelsOrdersUptoSaid : Prop := peelsOrdersUptoRow.holds Try.pinned (OpenSpec.upto peelsOrdersSpec)

end Rows
end Go.Proofs.Ytdfgknmajcehiaa
