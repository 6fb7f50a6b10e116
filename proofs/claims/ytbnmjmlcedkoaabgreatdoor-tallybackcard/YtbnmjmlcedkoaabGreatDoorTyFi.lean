import Derived.Test.YtbnmjmlcedkoaabGreatDoorTyFsP
import Derived.Laws.AppendOwnNone
namespace Go.Proofs.YtbnmjmlcedkoaabGreatDoor
namespace Ty
open Go.RowKit
set_option linter.unusedVariables false
theorem infoU : (Tryz.prog.info? 36).map (fun i => (i.zero, i.size, i.bytes)) = some (some (.int .u32 0), 1, 4) := by kernel_rfl
theorem info_u : ∃ i0, Tryz.prog.info? 36 = some i0 ∧ i0.zero = some (.int .u32 0) ∧ i0.size = 1 ∧ i0.bytes = 4 := by
  have h := infoU
  cases hh : Tryz.prog.info? 36 with
  | none => rw [hh] at h; cases h
  | some i => rw [hh] at h; simp at h; exact ⟨i, rfl, h.1, h.2.1, h.2.2⟩
/-- Numbers as values. -/
def us (xs : List Int) : List Value := xs.map (Value.int .u32)
theorem us_snoc (xs : List Int) (x : Int) : us (xs ++ [x]) = us xs ++ [.int .u32 x] := by simp [us]
/-- A list of the call's own. -/
def UL (w : World) (B : Nat) (v : Value) (xs : List Int) : Prop := w.ownsRow B 36 1 v xs.length (us xs)
/-- Those that are finite, of the first k. -/
def fz (zs : List Int) (k : Nat) : List Int := (zs.take k).filter (fun z => z / 8388608 % 256 != 255)
theorem fz_zero (zs : List Int) : fz zs 0 = [] := by simp [fz]
theorem fz_in (zs : List Int) (k : Nat) (h : k < zs.length) (hf : zs.getD k 0 / 8388608 % 256 ≠ 255) : fz zs (k + 1) = fz zs k ++ [zs.getD k 0] := by
  unfold fz
  have e : zs[k] = zs.getD k 0 := by simp [List.getD_eq_getElem?_getD, h]
  rw [List.take_succ_eq_append_getElem h, List.filter_append, e]
  generalize zs.getD k 0 = u at *
  simp [hf]
theorem fz_out (zs : List Int) (k : Nat) (h : k < zs.length) (hf : zs.getD k 0 / 8388608 % 256 = 255) : fz zs (k + 1) = fz zs k := by
  unfold fz
  have e : zs[k] = zs.getD k 0 := by simp [List.getD_eq_getElem?_getD, h]
  rw [List.take_succ_eq_append_getElem h, List.filter_append, e]
  generalize zs.getD k 0 = u at *
  simp [hf]
theorem fz_len (zs : List Int) (k : Nat) : (fz zs k).length ≤ k := by
  unfold fz
  exact Nat.le_trans (List.length_filter_le _ _) (by simp; omega)
theorem own_step2 {B k e : Nat} {xs : List Value} {w wr w1 : World} {u : Value} {o : Obj} (hB : B ≤ wr.heap.size)
    (hown : wr.ownsRow B e 1 u k xs) (hnx : Below B w wr) (hgrow : (wr.alloc o).grownBy w1 u.ownBlock) : Below B w w1 :=
  (hnx.alloc (by omega) o).grown hgrow (by simp; omega) (fun j hj => (hown.lt j hj).1)
set_option maxRecDepth 8000 in
set_option maxHeartbeats 800000 in
theorem finite_any (a : Option Addr) (len cap : Nat) (zs : List Int) (w : World) (hr : URow w a len zs) (hs : len ≤ 35184372088832) :
    Calls Tryz.prog 16 #[.slice a len cap] w fun e w' => ∃ v, e = .returned v ∧ UL w' w.heap.size v (fz zs len) ∧ Below w.heap.size w w' := by
  obtain ⟨i0, hi, hz0, hz1, hz2⟩ := info_u
  have HR : Hid (URow w a len zs) := hr
  clear hr
  go_enter Tryz.func16, Tryz.ntmps16
  go_wp2
  go_loopw [3, 4] (fun v i wr => ∃ k : Nat, k ≤ len ∧ i = .int .i64 k ∧ UL wr w.heap.size v (fz zs k) ∧ Below w.heap.size w wr) (fun _ i _ => len - (intOf i).toNat)
  case atStart => exact ⟨0, Nat.zero_le _, rfl, by rw [fz_zero]; exact World.ownsRow_nil _ _ _ _, Below.refl _ _⟩
  case round =>
    obtain ⟨k, hk, rfl, hown, hnx⟩ := hrel
    by_cases hlt : k < len
    · obtain ⟨x, rfl, hx, hcell⟩ := HR.out.2.1 (by omega)
      have hub := HR.out.2.2 k hlt
      have hcx : wr.cell? (x.add k) = some (.int .u32 (zs.getD k 0)) := (hnx.cell (p := x.add k) (by unfold Addr.add; split <;> exact hx)).trans (hcell k hlt)
      have hlz : k < zs.length := by have := HR.out.1.1; omega
      have HI : Hid (zs.getD k 0 / 8388608 % 256 ≠ 255 → fz zs (k + 1) = fz zs k ++ [zs.getD k 0]) := fz_in zs k hlz
      have HO : Hid (zs.getD k 0 / 8388608 % 256 = 255 → fz zs (k + 1) = fz zs k) := fz_out zs k hlz
      have hfl := fz_len zs k
      generalize zs.getD k 0 = u at *
      have hsz := hnx.size
      clear hcell hlz
      by_cases hf : u / 8388608 % 256 = 255
      · have HU : Hid (UL wr w.heap.size u3 (fz zs (k + 1))) := by rw [show _ = _ from HO.out hf]; exact hown
        have HN : Hid (Below w.heap.size w wr) := hnx
        clear hown hnx
        go_wp2
        exact ⟨⟨k + 1, by omega, by go_num, HU.out, HN.out⟩, by simp [intOf]; omega⟩
      · have Hs : Hid (us (fz zs (k + 1)) = us (fz zs k) ++ [.int .u32 u] ∧ (fz zs (k + 1)).length = (fz zs k).length + 1) := by
          refine ⟨?_, ?_⟩
          · rw [HI.out hf, us_snoc]
          · rw [HI.out hf, List.length_append]; rfl
        have hfb : (u / 8388608 % 256 == 255) = false := beq_false_of_ne hf
        unfold UL at hown
        generalize hfl0 : (fz zs k).length = n at *
        clear HI HO
        go_wp2_with (at_builtin; refine wpList_append_own _ rfl _ _ 41 rfl w.heap.size 36 i0 (.int .u32 0) 1 4 Tryz.underlying41 hi hz0 hz1 hz2 rfl (by decide) _ _ _ rfl (hown.alloc _) ⟨wr.heap.size, 0, none⟩ 1 1 [.int .u32 u] rfl rfl ?c1 ?c2 ?c3 ?c4 ?c5 ?_)
        case c1 => exact cell_one_new _ _ _
        case c2 => intro u hu; simp at hu; subst hu; rfl
        case c3 => unfold maxLen; omega
        case c4 => omega
        case c5 => simp; omega
        · intro v' w1 hown' hgrow _
          have hb1 := own_step2 hsz hown hnx hgrow
          have HU : Hid (UL w1 w.heap.size v' (fz zs (k + 1))) := by
            show w1.ownsRow _ _ _ _ _ _
            rw [Hs.out.1, Hs.out.2]; exact hown'
          clear hgrow hown hnx hown'
          go_wp2
          exact ⟨⟨k + 1, by omega, by go_num, HU.out, hb1⟩, by simp [intOf]; omega⟩
    · obtain rfl : k = len := by omega
      have hkl : ¬ (k : Int) < (k : Int) := by omega
      go_wp2
      go_ret
      exact ⟨_, rfl, hown, hnx⟩
end Ty
end Go.Proofs.YtbnmjmlcedkoaabGreatDoor
