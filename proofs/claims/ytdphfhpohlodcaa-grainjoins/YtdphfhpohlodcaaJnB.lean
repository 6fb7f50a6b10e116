import Derived.Test.YtdphfhpohlodcaaJnW
import Derived.Deep.RegionWith
import Derived.Deep.RegionHeld
import Derived.Handy
import Derived.Deep.OwnRows
namespace Go.Proofs.Ytdphfhpohlodcaa
namespace Jn
open Go.RowKit
set_option linter.unusedVariables false
theorem cell46 (w : World) (b i : Nat) (c : Array Value) (M : Nat → Int) (hc : Arr c M) (h : w.heap[b]? = some (.cells c 46 (0, 0))) (hi : i < 32) : w.cell? ⟨b, i, none⟩ = some (.int .u32 (M i)) := by
  rw [cell_of_row _ _ i c 46 (0, 0) h]; exact (hc.2 i hi).1
theorem frozen46 (w : World) (b i : Nat) (c : Array Value) (t : TypeId) (h : w.heap[b]? = some (.cells c t (0, 0))) : w.frozen? ⟨b, i, none⟩ = false := by
  simp [World.frozen?, h]
theorem heap_three (w : World) (o1 o2 o3 : Obj) : (((w.alloc o1).alloc o2).alloc o3).heap[w.heap.size]? = some o1 ∧ (((w.alloc o1).alloc o2).alloc o3).heap[w.heap.size + 1]? = some o2 ∧ (((w.alloc o1).alloc o2).alloc o3).heap[w.heap.size + 2]? = some o3 := by
  show (((w.heap.push o1).push o2).push o3)[w.heap.size]? = some o1 ∧ (((w.heap.push o1).push o2).push o3)[w.heap.size + 1]? = some o2 ∧ (((w.heap.push o1).push o2).push o3)[w.heap.size + 2]? = some o3
  refine ⟨?_, ?_, ?_⟩ <;> (simp only [Array.getElem?_push, Array.size_push]; repeat' split) <;> first | rfl | omega | (exact absurd trivial (by assumption)) | simp_all
theorem zeros : Arr (Array.replicate 32 (.int .u32 0)) (fun _ => 0) := by
  refine ⟨by simp, fun i hi => ⟨by simp [hi], (show W32 0 from ⟨by decide, by decide⟩)⟩⟩
theorem row_of {w : World} {b : Nat} {c : Array Value} {M : Nat → Int} (hc : Arr c M) (h : w.heap[b]? = some (.cells c 46 (0, 0))) : w.rowIs b 46 32 (fun i => .int .u32 (M i)) :=
  ⟨c, h, hc.1, fun i hi => (hc.2 i hi).1⟩
/-- What the three variables of 'squared' hold behind j rounds. -/
def Mid (w wr : World) (M : Nat → Int) (j : Nat) : Prop :=
  Below w.heap.size w wr ∧ w.heap.size + 3 ≤ wr.heap.size ∧ wr.rowIs w.heap.size 46 32 (fun i => .int .u32 (M i)) ∧ wr.rowIs (w.heap.size + 1) 46 32 (fun _ => .int .u32 0) ∧
  wr.rowIs (w.heap.size + 1 + 1) 46 32 (fun i => .int .u32 (if i < j then sq M i else 0))
theorem mid_start (w : World) (c : Array Value) (M : Nat → Int) (z : Array Value) (hc : Arr c M) (hz : Arr z (fun _ => 0)) : Mid w (((w.alloc (.cells c 46)).alloc (.cells z 46)).alloc (.cells z 46)) M 0 := by
  obtain ⟨h1, h2, h3⟩ := heap_three w (.cells c 46) (.cells z 46) (.cells z 46)
  refine ⟨(((Below.refl _ _).alloc (Nat.le_refl _) _).alloc (by simp) _).alloc (by simp; omega) _, by simp, row_of hc h1, row_of hz h2, ?_⟩
  exact (row_of hz h3).congr (fun i hi => by simp)
theorem all_one {c : Array Value} {M : Nat → Int} (h : Arr c M) : c.all (·.oneCell') = true := by
  rw [Array.all_eq_true]
  intro i hi
  have h1 := (h.2 i (by have := h.1; omega)).1
  rw [Array.getElem?_eq_getElem hi] at h1
  rw [Option.some.inj h1]; rfl
theorem mid_step {w wr wx w9 : World} {M : Nat → Int} {j : Nat} (hm : Mid w wr M j) (hj : j < 32) (hb : Below wx.heap.size wx w9) (hx : wx.heap = wr.heap) (hwx : Below w.heap.size wr wx) :
    Mid w (w9.setCell ⟨w.heap.size + 1 + 1, j, none⟩ (.int .u32 (ofL M (M j) 32))) M (j + 1) := by
  obtain ⟨b1, b2, r0, r1, r2⟩ := hm
  have hblk : ∀ k, k < wr.heap.size → w9.heap[k]? = wr.heap[k]? := fun k hk => by rw [hb.block k (by rw [hx]; exact hk), hx]
  have hs := hb.size
  rw [hx] at hs
  have b3 : Below w.heap.size w w9 := by
    exact b1.trans (hwx.trans (hb.mono (by rw [hx]; exact b1.size)))
  refine ⟨b3.setCell (by show w.heap.size ≤ w.heap.size + 1 + 1; omega) _, by simp; omega, ?_, ?_, ?_⟩
  · exact (r0.of_block (hblk _ (by omega))).setOther (by show w.heap.size ≠ w.heap.size + 1 + 1; omega) _
  · exact (r1.of_block (hblk _ (by omega))).setOther (by show w.heap.size + 1 ≠ w.heap.size + 1 + 1; omega) _
  · refine ((r2.of_block (hblk _ (by omega))).set j _).congr (fun i hi => ?_)
    by_cases e : i = j
    · subst e; simp [sq]
    · simp only [e, if_false]
      by_cases h : i < j
      · rw [if_pos h, if_pos (by omega)]
      · rw [if_neg h, if_neg (by omega)]
theorem held_drew {wr : World} {b j : Nat} {cc : Array Value} {M : Nat → Int} (h : wr.heap[b]? = some (.cells cc 46 (0, 0))) (hj : cc[j]? = some (.int .u32 (M j))) :
    wr.drew.rangeAt b 0 cc.toList ∧ wr.drew.cell? ⟨b, j, none⟩ = some (.int .u32 (M j)) := by
  have h' : wr.drew.heap[b]? = some (.cells cc 46 (0, 0)) := h
  refine ⟨fun i v hv => ?_, ?_⟩
  · rw [cell_of_row _ _ (0 + i) cc 46 (0, 0) h', Nat.zero_add]; simpa using hv
  · rw [cell_of_row _ _ j cc 46 (0, 0) h']; exact hj
theorem held_below {wx w9 : World} {b j : Nat} {cs : List Value} {v : Value} (h : wx.rangeAt b 0 cs ∧ wx.cell? ⟨b, j, none⟩ = some v) (hb : Below wx.heap.size wx w9) (hlt : b < wx.heap.size) :
    w9.rangeAt b 0 cs ∧ w9.cell? ⟨b, j, none⟩ = some v := by
  refine ⟨fun i v hv => ?_, ?_⟩
  · rw [hb.cell (p := ⟨b, 0 + i, none⟩) hlt]; exact h.1 i v hv
  · rw [hb.cell (p := ⟨b, j, none⟩) hlt]; exact h.2
theorem held_set {wx : World} {b j : Nat} {cs : List Value} {v x : Value} {p : Addr} (h : wx.rangeAt b 0 cs ∧ wx.cell? ⟨b, j, none⟩ = some v) (hp : p.block ≠ b) :
    (wx.setCell p x).rangeAt b 0 cs ∧ (wx.setCell p x).cell? ⟨b, j, none⟩ = some v := by
  refine ⟨fun i v hv => ?_, ?_⟩
  · rw [World.cell?_setCell_far _ _ _ _ hp]; exact h.1 i v hv
  · rw [World.cell?_setCell_far _ _ _ _ hp]; exact h.2
set_option maxHeartbeats 800000 in
theorem squared_any (c : Array Value) (M : Nat → Int) (w : World) (hc : Arr c M) :
    Calls Try.prog 19 #[.agg c] w fun e w' => ∃ d, e = .returned (.agg d) ∧ Arr d (sq M) ∧ Below w.heap.size w w' := by
  go_enter Try.func19, Try.ntmps19
  go_wp2
  go_loopw [5] (fun i wr => ∃ j : Nat, j ≤ 32 ∧ i = .int .i64 j ∧ Mid w wr M j) (fun i _ => 32 - (intOf i).toNat)
  case atStart =>
    exact ⟨0, by omega, rfl, mid_start w c M _ hc zeros⟩
  case round =>
    obtain ⟨j, hj, rfl, hm⟩ := hrel
    have HM : Hid (Mid w wr M j) := hm
    obtain ⟨b1, b2, r0, r1, r2⟩ := hm
    by_cases hlt : j < 32
    · obtain ⟨cc, hcc, hsz, hcv⟩ := r0
      have hmj := (hc.2 j hlt).2
      have hj2 := r2.cell hlt
      have hj3 := r2.frozen j
      have HA : Hid (Arr cc.toList.toArray M) := ⟨by simpa using hsz, fun i hi => ⟨by simpa using hcv i hi, (hc.2 i hi).2⟩⟩
      have hD : Hid (wr.drew.rangeAt w.heap.size 0 cc.toList ∧ wr.drew.cell? ⟨w.heap.size, j, none⟩ = some (.int .u32 (M j))) := held_drew hcc (hcv j hlt)
      have hu46 : Try.prog.underlying 46 = some (.array 32 31) := Try.underlying46
      have hi46 : (Try.prog.info? 46).map (·.size) = some cc.toList.length := by rw [Array.length_toList, hsz]; exact size46
      have hlt0 : w.heap.size < wr.heap.size := by omega
      clear b1 r1 r2 hcc hcv hsz
      go_wp2
      go_region_held (fun w' => w'.rangeAt w.heap.size 0 cc.toList ∧ w'.cell? ⟨w.heap.size, j, none⟩ = some (.int .u32 (M j)))
        (first | exact hD.out | exact held_below hD.out hb9 hlt0 | (exact held_set (by assumption) (by show w.heap.size + 1 + 1 ≠ w.heap.size; omega)))
        ((go_at_call 18; refine (of_any _ M (M j) _ HA.out hmj).mono ?_; rintro e9 w9 ⟨rfl, hb9⟩; have q1 := (hb9.cell (p := ⟨w.heap.size + 1 + 1, j, none⟩) (by simp; omega)).trans hj2; have q2 := (hb9.frozen (p := ⟨w.heap.size + 1 + 1, j, none⟩) (by simp; omega)).trans hj3))
      have hmm := mid_step HM.out hlt hb9 rfl ((Below.refl _ _).drew)
      go_wp2
      exact ⟨⟨j + 1, by omega, by go_num, hmm⟩, by simp [intOf]; omega⟩
    · obtain rfl : j = 32 := by omega
      obtain ⟨z, rz, hz, _⟩ := r1
      obtain ⟨t, rt, ht, htc⟩ := r2
      have hd : Arr t (sq M) := ⟨ht, fun i hi => ⟨by rw [htc i hi]; simp [hi], ofL_b _ _ _⟩⟩
      have hall : t.all (·.oneCell') = true := all_one hd
      have hld : (loadVar 46 ⟨w.heap.size + 1, 0, none⟩).run Try.prog (wr.setRow (w.heap.size + 1) t) = .ok (.agg t) (wr.setRow (w.heap.size + 1) t) :=
        run_loadVar_row _ _ 46 46 t (0, 0) _ (setRow_heap wr (w.heap.size + 1) z t 46 (0, 0) rz) Try.underlying46 rfl (by rw [ht]; exact size46)
      have hbel : Below w.heap.size w (wr.setRow (w.heap.size + 1) t) := b1.trans ⟨rfl, rfl, rfl, by simp, fun k hk => setRow_other wr _ k t (by omega)⟩
      clear b1 b2 r0 HM htc
      go_wp2_with (first
        | (refine wpList_load46 rfl _ rfl (w.heap.size + 1 + 1) t rfl ht rt ?_)
        | (refine wpList_store46 rfl _ _ rfl (w.heap.size + 1) t z rfl rfl ht hz hall rz ?_))
      refine bodyPost_ret (v := .agg t) ?_ rfl ⟨t, rfl, hd, hbel⟩
      simp [results, Try.results19, asAddr, hld]
end Jn
end Go.Proofs.Ytdphfhpohlodcaa
