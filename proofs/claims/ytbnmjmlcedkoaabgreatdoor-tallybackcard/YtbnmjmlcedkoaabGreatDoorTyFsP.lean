import Derived.Test.YtbnmjmlcedkoaabGreatDoorTyAeP
import Derived.Maps.AppendAt
namespace Go.Proofs.YtbnmjmlcedkoaabGreatDoor
namespace Ty
open Go.RowKit
set_option linter.unusedVariables false
theorem infoF : (Tryz.prog.info? 44).map (fun i => (i.zero, i.size, i.bytes)) = some (some (.float .f32 0), 1, 4) := by kernel_rfl
def fvals (zs : List Int) (k : Nat) : List Value := (zs.take k).map (fun z => Value.float .f32 z.toNat)
theorem fvals_zero (zs : List Int) : fvals zs 0 = [] := by simp [fvals]
theorem fvals_succ (zs : List Int) (k : Nat) (h : k < zs.length) : fvals zs (k + 1) = fvals zs k ++ [.float .f32 (zs.getD k 0).toNat] := by
  unfold fvals
  rw [List.take_succ_eq_append_getElem h, List.map_append]
  simp [List.getD_eq_getElem?_getD, h]
theorem fvals_len (zs : List Int) (k : Nat) (h : k ≤ zs.length) : (fvals zs k).length = k := by simp [fvals]; omega
theorem fvals_get (zs : List Int) (k i : Nat) (ts : List Value) (hk : k ≤ zs.length) (hi : i < k) : (fvals zs k ++ ts)[i]? = some (.float .f32 (zs.getD i 0).toNat) := by
  have hl := fvals_len zs k hk
  rw [List.getElem?_append_left (by omega)]
  unfold fvals
  rw [List.getElem?_map, List.getElem?_take_of_lt hi, List.getD_eq_getElem?_getD, List.getElem?_eq_getElem (by omega)]
  rfl
theorem own_step {B k e : Nat} {xs : List Value} {w wr w1 : World} {u : Value} {o : Obj} (hB : B ≤ wr.heap.size)
    (hown : wr.ownsRow B e 1 u k xs) (hnx : Below B w wr) (hgrow : (wr.alloc o).grownBy w1 u.ownBlock) : Below B w w1 :=
  (hnx.alloc (by omega) o).grown hgrow (by simp; omega) (fun j hj => (hown.lt j hj).1)
end Ty
end Go.Proofs.YtbnmjmlcedkoaabGreatDoor
