import Derived.Test.YtbnmjmlcedkoaabDoorTyAeP
import Derived.Maps.AppendAt
namespace Go.Proofs.YtbnmjmlcedkoaabDoor
namespace Ty
open Go.RowKit
set_option linter.unusedVariables false
theorem infoF : (Tryd.prog.info? 43).map (fun i => (i.zero, i.size, i.bytes)) = some (some (.float .f32 0), 1, 4) := by kernel_rfl
def fvals (zs : List Int) (k : Nat) : List Value := (zs.take k).map (fun z => Value.float .f32 z.toNat)
theorem fvals_zero (zs : List Int) : fvals zs 0 = [] := by simp [fvals]
theorem fvals_succ (zs : List Int) (k : Nat) (h : k < zs.length) : fvals zs (k + 1) = fvals zs k ++ [.float .f32 (zs.getD k 0).toNat] := by
  unfold fvals
  rw [List.take_succ_eq_append_getElem h, List.map_append]
  simp [List.getD_eq_getElem?_getD, h]
theorem fvals_len (zs : List Int) (k : Nat) (h : k ≤ zs.length) : (fvals zs k).length = k := by simp [fvals]; omega
theorem fvals_get (zs : List Int) (k i : Nat) (ts : List Value) (hk : k ≤ zs.length) (hi : i < k) : (fvals zs k ++ ts)[i]? = some (.float .f32 (zs.getD i 0).toNat) := by
  have hl := fvals_len zs k hk
  rw [List.getElem?_append_left (by omega)]
  unfold fvals
  rw [List.getElem?_map, List.getElem?_take_of_lt hi, List.getD_eq_getElem?_getD, List.getElem?_eq_getElem (by omega)]
  rfl
theorem own_step {B k e : Nat} {xs : List Value} {w wr w1 : World} {u : Value} {o : Obj} (hB : B ≤ wr.heap.size)
    (hown : wr.ownsRow B e 1 u k xs) (hnx : Below B w wr) (hgrow : (wr.alloc o).grownBy w1 u.ownBlock) : Below B w w1 :=
  (hnx.alloc (by omega) o).grown hgrow (by simp; omega) (fun j hj => (hown.lt j hj).1)
set_option maxHeartbeats 800000 in
theorem floats_any (a : Option Addr) (len cap : Nat) (zs : List Int) (w : World) (hr : URow w a len zs) (hs : len ≤ 35184372088832) :
    Calls Tryd.prog 8 #[.slice a len cap] w fun e w' => ∃ v, e = .returned v ∧ w'.ownsRow w.heap.size 43 1 v len (fvals zs len) ∧ Below w.heap.size w w' := by
  obtain ⟨i0, hi, hz0, hz1, hz2⟩ : ∃ i0, Tryd.prog.info? 43 = some i0 ∧ i0.zero = some (.float .f32 0) ∧ i0.size = 1 ∧ i0.bytes = 4 := by
    have h := infoF
    cases hh : Tryd.prog.info? 43 with
    | none => rw [hh] at h; cases h
    | some i => rw [hh] at h; simp at h; exact ⟨i, rfl, h.1, h.2.1, h.2.2⟩
  have HR : Hid (URow w a len zs) := hr
  clear hr
  go_enter Tryd.func8, Tryd.ntmps8
  go_wp2
  go_loopw [3, 4] (fun v i wr => ∃ k : Nat, k ≤ len ∧ i = .int .i64 k ∧ wr.ownsRow w.heap.size 43 1 v k (fvals zs k) ∧ Below w.heap.size w wr) (fun _ i _ => len - (intOf i).toNat)
  case atStart => exact ⟨0, Nat.zero_le _, rfl, by rw [fvals_zero]; exact World.ownsRow_nil _ _ _ _, Below.refl _ _⟩
  case round =>
    obtain ⟨k, hk, rfl, hown, hnx⟩ := hrel
    by_cases hlt : k < len
    · obtain ⟨x, rfl, hx, hcell⟩ := HR.out.2.1 (by omega)
      have hcx : wr.cell? (x.add k) = some (.int .u32 (zs.getD k 0)) := (hnx.cell (p := x.add k) (by unfold Addr.add; split <;> exact hx)).trans (hcell k hlt)
      have Hs : Hid (fvals zs (k + 1) = fvals zs k ++ [.float .f32 (zs.getD k 0).toNat]) := fvals_succ zs k (by have := HR.out.1.1; omega)
      generalize zs.getD k 0 = u at *
      have hsz := hnx.size
      clear hcell
      go_wp2_with (fail)
      refine (Cl.float_any u _).mono ?_
      rintro e9 w9 ⟨rfl, hw9⟩
      subst w9
      generalize u.toNat = b at *
      go_wp2_with (at_builtin; refine wpList_append_own _ rfl _ _ 31 rfl w.heap.size 43 i0 (.float .f32 0) 1 4 Tryd.underlying31 hi hz0 hz1 hz2 rfl (by decide) _ _ _ rfl (hown.alloc _) ⟨wr.heap.size, 0, none⟩ 1 1 [.float .f32 b] rfl rfl ?c1 ?c2 ?c3 ?c4 ?c5 ?_)
      case c1 => exact cell_one_new _ _ _
      case c2 => intro u hu; simp at hu; subst hu; rfl
      case c3 => unfold maxLen; omega
      case c4 => omega
      case c5 => simp; omega
      · intro v' w1 hown' hgrow _
        have hb1 := own_step hsz hown hnx hgrow
        rw [← Hs.out] at hown'
        clear hgrow hown hnx
        go_wp2
        exact ⟨⟨k + 1, by omega, by go_num, hown', hb1⟩, by simp [intOf]; omega⟩
    · obtain rfl : k = len := by omega
      have hkl : ¬ (k : Int) < (k : Int) := by omega
      go_wp2
      go_ret
      exact ⟨_, rfl, hown, hnx⟩
end Ty
end Go.Proofs.YtbnmjmlcedkoaabDoor
