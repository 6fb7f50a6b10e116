/-
  No cell of these rows narrows 'for every input' (looked for: loops, veiled, ifaces, maps, wideKeys, modest, calm, conditions, laid).
  DERIVED. THE GIVEN ROWS OF THIS SEAT. 3 by the template 'for every input the law returns true; each argument reads behind the call as it read before'; 0 by the template 'total and deterministic' (their statements: YtlkipgpfjpmliaaTotals.lean).
  GIVEN WITH THE SEED: the statements are not yours to turn. If you find one false, say at which input.
  Laid BY PROGRAM, IN A SANDBOX (cutbox-rows.mjs): the forced cells as the released guide's own fill.sh prints them over the translation a90a989f36fca829… (all of the seat's roots in one cut). By AI agents, Wed Nov 11 2026. No macro, syntax, notation, axiom, sorry.
-/
import Derived.Test.YtlkipgpfjpmliaaChecked
import GoSem.Claim
import GoSem.ClaimJoined
import GoSem.ClaimMapViews
import Derived.JoinedTies
import Derived.KernelRfl
namespace Go.Proofs.Ytlkipgpfjpmliaa
/- THE CELL 'sum', in the pinned program and in every row, IS THE sha256 OF THE DUMP (.gsa) THAT YtlkipgpfjpmliaaProg.lean LOADS. Nothing in Lean hashes anything: it is a label: what it is worth is what the hold of that sum in a sandbox is worth. -/
noncomputable def Try.pinned : Pinned := { name := "ytlkipgpfjpmliaa", sum := "a90a989f36fca829a886733e2d064c114841bcabf3d553a09455d83aaa630dfb", checked := Try.checked }
namespace Rows
def none {H : Type} : Left H := { results := [], args := [] }

/-- 'sluicelaw13.FlowsTells': WHATEVER THE INPUT: true; the input reads as it did. -/
def flowsTellsSpec : ChangeSpec := { name := "flowsTells", fn := fun _ => fun
  | [d] => { results := [.lit (.bool true)], args := [d] }
  | _ => none }
def flowsTellsRow : OpenClaim := { program := "ytlkipgpfjpmliaa", sum := "a90a989f36fca829a886733e2d064c114841bcabf3d553a09455d83aaa630dfb", func := "sluice/sluicelaw13.FlowsTells", spec := "flowsTells", apart := false }
def FlowsTellsSaid : Prop := flowsTellsRow.holds Try.pinned (OpenSpec.ofChange flowsTellsSpec)

/-- ITS FALSE NEIGHBOUR: 'it returns false'. Refute it at one input. -/
def flowsTellsWrong : ChangeSpec := { name := "flowsTells", fn := fun _ => fun
  | [d] => { results := [.lit (.bool false)], args := [d] }
  | _ => none }
def FlowsTellsWrongFalsely : Prop := flowsTellsRow.holds Try.pinned (OpenSpec.ofChange flowsTellsWrong)

/-- 'sluicelaw13.FlowsNil': WHATEVER THE INPUT: true; the input reads as it did. -/
def flowsNilSpec : ChangeSpec := { name := "flowsNil", fn := fun _ => fun
  | [d1, d2, d3, d4] => { results := [.lit (.bool true)], args := [d1, d2, d3, d4] }
  | _ => none }
def flowsNilRow : OpenClaim := { program := "ytlkipgpfjpmliaa", sum := "a90a989f36fca829a886733e2d064c114841bcabf3d553a09455d83aaa630dfb", func := "sluice/sluicelaw13.FlowsNil", spec := "flowsNil", unfollowed := true, recurses := true, apart := false }
def FlowsNilSaid : Prop := flowsNilRow.holds Try.pinned (OpenSpec.ofChange flowsNilSpec)

/-- ITS FALSE NEIGHBOUR: 'it returns false'. Refute it at one input. -/
def flowsNilWrong : ChangeSpec := { name := "flowsNil", fn := fun _ => fun
  | [d1, d2, d3, d4] => { results := [.lit (.bool false)], args := [d1, d2, d3, d4] }
  | _ => none }
def FlowsNilWrongFalsely : Prop := flowsNilRow.holds Try.pinned (OpenSpec.ofChange flowsNilWrong)

/-- 'sluicelaw13.FlowsMakes': WHATEVER THE INPUT: true; the input reads as it did. -/
def flowsMakesSpec : ChangeSpec := { name := "flowsMakes", fn := fun _ => fun
  | [d1, d2, d3, d4] => { results := [.lit (.bool true)], args := [d1, d2, d3, d4] }
  | _ => none }
def flowsMakesRow : OpenClaim := { program := "ytlkipgpfjpmliaa", sum := "a90a989f36fca829a886733e2d064c114841bcabf3d553a09455d83aaa630dfb", func := "sluice/sluicelaw13.FlowsMakes", spec := "flowsMakes", apart := false }
def FlowsMakesSaid : Prop := flowsMakesRow.holds Try.pinned (OpenSpec.ofChange flowsMakesSpec)

/-- ITS FALSE NEIGHBOUR: 'it returns false'. Refute it at one input. -/
def flowsMakesWrong : ChangeSpec := { name := "flowsMakes", fn := fun _ => fun
  | [d1, d2, d3, d4] => { results := [.lit (.bool false)], args := [d1, d2, d3, d4] }
  | _ => none }
def FlowsMakesWrongFalsely : Prop := flowsMakesRow.holds Try.pinned (OpenSpec.ofChange flowsMakesWrong)

/- THE SECOND FORM. 'bulk': how many values and letters a reading holds, each counted each time it is reached (what is shared counts as often as it is met; a slice's spare places count too). A statement '..UptoSaid' is the law's where the arguments, and the package variables that the reading takes, are together of bulk at most 1048576: NARROWER than '..Said'. Prove '..Said' where nothing that the law and all that it calls make is longer than what came in: it says more and counts as full. Else prove '..UptoSaid'. A law counts once. -/
mutual
def uptoBulk {H : Type} : DataW H → Nat
  | .lit (.string bytes) => bytes.length + 1
  | .lit _ => 1
  | .nil => 1
  | .ptr d => uptoBulk d + 1
  | .slice elems spare => uptoBulkAll elems + uptoBulkAll spare + 1
  | .agg parts => uptoBulkAll parts + 1
  | .iface _ d => uptoBulk d + 1
  | .map entries => uptoBulkEntries entries + 1
  | .held _ => 1
def uptoBulkAll {H : Type} : List (DataW H) → Nat
  | [] => 0
  | d :: r => uptoBulk d + uptoBulkAll r
def uptoBulkEntries {H : Type} : List (Lit × DataW H) → Nat
  | [] => 0
  | x :: r => uptoBulkEntry x + uptoBulkEntries r
def uptoBulkEntry {H : Type} : Lit × DataW H → Nat
  | (.string bytes, d) => bytes.length + uptoBulk d + 1
  | (_, d) => uptoBulk d + 1
 end
def uptoSmall : (H : Type) → List (DataW H) → Bool := fun _ ds => decide (uptoBulkAll ds ≤ 1048576)
def OpenSpec.upto (s : _root_.Go.ChangeSpec) : _root_.Go.OpenSpec := { _root_.Go.OpenSpec.ofChange s with cond := some uptoSmall }

/-- 'sluicelaw13.FlowsTells', WHERE WHAT IT READS IS OF BULK AT MOST 1048576: true; the input reads as it did. -/
def flowsTellsUptoRow : OpenClaim := { program := "ytlkipgpfjpmliaa", sum := "a90a989f36fca829a886733e2d064c114841bcabf3d553a09455d83aaa630dfb", func := "sluice/sluicelaw13.FlowsTells", spec := "flowsTells", apart := false, narrowed := true }
def FlowsTellsUptoSaid : Prop := flowsTellsUptoRow.holds Try.pinned (OpenSpec.upto flowsTellsSpec)

/-- 'sluicelaw13.FlowsNil', WHERE WHAT IT READS IS OF BULK AT MOST 1048576: true; the input reads as it did. -/
def flowsNilUptoRow : OpenClaim := { program := "ytlkipgpfjpmliaa", sum := "a90a989f36fca829a886733e2d064c114841bcabf3d553a09455d83aaa630dfb", func := "sluice/sluicelaw13.FlowsNil", spec := "flowsNil", unfollowed := true, recurses := true, apart := false, narrowed := true }
def FlowsNilUptoSaid : Prop := flowsNilUptoRow.holds Try.pinned (OpenSpec.upto flowsNilSpec)

/-- 'sluicelaw13.FlowsMakes', WHERE WHAT IT READS IS OF BULK AT MOST 1048576: true; the input reads as it did. -/
def flowsMakesUptoRow : OpenClaim := { program := "ytlkipgpfjpmliaa", sum := "a90a989f36fca829a886733e2d064c114841bcabf3d553a09455d83aaa630dfb", func := "sluice/sluicelaw13.FlowsMakes", spec := "flowsMakes", apart := false, narrowed := true }
def FlowsMakesUptoSaid : Prop := flowsMakesUptoRow.holds Try.pinned (OpenSpec.upto flowsMakesSpec)

end Rows
end Go.Proofs.Ytlkipgpfjpmliaa
