import Derived.Test.YtiljdiagabepbaaDoorPbE
import Derived.Laws.AppendOwnNone
import Derived.Maps.AppendAt
namespace Go.Proofs.YtiljdiagabepbaaDoor
namespace Pb
open Go.RowKit
set_option linter.unusedVariables false
theorem wp_cut {P : Program} {c : Code} {Q : Exit → Act → World → Prop} {a : Act} {w : World} (T : World → Prop) (A1 : Act)
    (h : c.wp P (fun e a' w' => match e with | .normal => a' = A1 ∧ T w' | _ => False) a w) (hq : ∀ w', T w' → Q .normal A1 w') : c.wp P Q a w := by
  refine Code.wp_mono ?_ h
  intro e a' w' hh
  cases e with
  | normal => obtain ⟨rfl, ht⟩ := hh; exact hq w' ht
  | _ => exact hh.elim
theorem infoCh : (Tryd.prog.info? 81).map (fun i => (i.zero, i.size, i.bytes)) = some (some (.agg #[.string ⟨#[]⟩, .string ⟨#[]⟩, .pointer none]), 3, 40) := by kernel_rfl
theorem info_ch : ∃ i0, Tryd.prog.info? 81 = some i0 ∧ i0.zero = some (.agg #[.string ⟨#[]⟩, .string ⟨#[]⟩, .pointer none]) ∧ i0.size = 3 ∧ i0.bytes = 40 := by
  have h := infoCh
  cases hh : Tryd.prog.info? 81 with
  | none => rw [hh] at h; cases h
  | some i => rw [hh] at h; simp at h; exact ⟨i, rfl, h.1, h.2.1, h.2.2⟩
theorem index0 (a b : Value) (w : World) : (Instr.index 107 (.agg #[a, b]) (.int .i64 0)).run Tryd.prog w = .ok a w := by kernel_rfl
theorem index1 (a b : Value) (w : World) : (Instr.index 107 (.agg #[a, b]) (.int .i64 1)).run Tryd.prog w = .ok b w := by kernel_rfl
set_option maxHeartbeats 1600000 in
set_option maxRecDepth 8000 in
theorem alter_new (g gp gn gd gf : Nat) (q ops used : Int) (w : World) (hg : w.heap[g]? = some (.cells (dk g q ops gp gn gd (.slice none 0 0) used) 68 (0, 0))) (hn : w.heap[gn]? = some (.map #[] 0)) :
    Calls Tryd.prog 23 #[.pointer (some ⟨g, 0, none⟩), .agg #[.string ⟨#[]⟩, .string ⟨#[102]⟩, .pointer (some ⟨gf, 0, none⟩)]] w fun e w' => e = .returned (.tuple #[]) ∧ (∃ ch, w'.heap[g]? = some (.cells (dk g q ops gp gn gd ch used) 68 (0, 0))) ∧ w'.heap[gn]? = some (.map (m1 gf 0) 1) ∧ w.heap.size ≤ w'.heap.size ∧ (∀ k, k < w.heap.size → k ≠ gn → k ≠ g → w'.heap[k]? = w.heap[k]?) ∧ ∀ B w0, Below B w0 w → B ≤ gn → B ≤ g → Below B w0 w' := by
  have lg := (Array.getElem?_eq_some_iff.1 hg).1
  have ln := (Array.getElem?_eq_some_iff.1 hn).1
  have hne : gn ≠ g := by rintro rfl; rw [hg] at hn; cases hn
  obtain ⟨v, hv, gv, nv, kv, sv, ov, bv⟩ : ∃ v, w.alloc (.cells #[.string ⟨#[]⟩, .string ⟨#[102]⟩, .pointer (some ⟨gf, 0, none⟩)] 81) = v ∧ v.heap[g]? = some (.cells (dk g q ops gp gn gd (.slice none 0 0) used) 68 (0, 0)) ∧ v.heap[gn]? = some (.map #[] 0) ∧ v.heap[w.heap.size]? = some (.cells #[.string ⟨#[]⟩, .string ⟨#[102]⟩, .pointer (some ⟨gf, 0, none⟩)] 81 (0, 0)) ∧ v.heap.size = w.heap.size + 1 ∧ (∀ k, k < w.heap.size → v.heap[k]? = w.heap[k]?) ∧ ∀ B w0, Below B w0 w → B ≤ gn → Below B w0 v :=
    ⟨_, rfl, (Go.Deep.blk_alloc_lt _ _ _ lg).trans hg, (Go.Deep.blk_alloc_lt _ _ _ ln).trans hn, heap_alloc_last w _, by simp, fun k hk => Go.Deep.blk_alloc_lt _ _ _ hk, fun B w0 h hb => h.alloc (by omega) _⟩
  obtain ⟨c7, -⟩ := dcell gv 7 (.map (some gn)) rfl
  obtain ⟨c9, f9⟩ := dcell gv 9 (.slice none 0 0) rfl
  obtain ⟨k0, -⟩ := dcell kv 0 (.string ⟨#[]⟩) rfl
  obtain ⟨k1, -⟩ := dcell kv 1 (.string ⟨#[102]⟩) rfl
  obtain ⟨k2, -⟩ := dcell kv 2 (.pointer (some ⟨gf, 0, none⟩)) rfl
  have l0 := look_str gn 0 #[] ⟨#[]⟩ none v nv rfl
  have l1 := look_str gn 0 #[] ⟨#[102]⟩ none v nv rfl
  have i0 := fun w => index0 (.string ⟨#[]⟩) (.string ⟨#[102]⟩) w
  have i1 := fun w => index1 (.string ⟨#[]⟩) (.string ⟨#[102]⟩) w
  go_enter Tryd.func23, Tryd.ntmps23
  go_wp2
  go_loop [12, 5, 6] (fun i _ _ => i = .int .i64 0 ∨ i = .int .i64 1 ∨ i = .int .i64 2) (fun i _ _ => 2 - (intOf i).toNat)
  case atStart => exact .inl rfl
  case round =>
    rcases hrel with rfl | rfl | rfl
    · go_wp2
      refine ⟨?_, by simp [intOf]⟩
      simp
    · go_wp2
      refine ⟨?_, by simp [intOf]⟩
      simp
    · have nA : (v.alloc (.cells #[.string ⟨#[]⟩, .string ⟨#[102]⟩, .pointer (some ⟨gf, 0, none⟩)] 81)).heap[gn]? = some (.map #[] 0) := (Go.Deep.blk_alloc_lt _ _ _ (by omega)).trans nv
      have kA : (v.alloc (.cells #[.string ⟨#[]⟩, .string ⟨#[102]⟩, .pointer (some ⟨gf, 0, none⟩)] 81)).heap[w.heap.size + 1]? = some (.cells #[.string ⟨#[]⟩, .string ⟨#[102]⟩, .pointer (some ⟨gf, 0, none⟩)] 81 (0, 0)) := by rw [← sv]; exact heap_alloc_last v _
      clear hv
      go_wp2
      apply wp_cut (fun w' => w'.heap[gn]? = some (.map (m1 gf 0) 1) ∧ w'.heap[g]? = some (.cells (dk g q ops gp gn gd (.slice none 0 0) used) 68 (0, 0)) ∧ w'.heap[w.heap.size]? = some (.cells #[.string ⟨#[]⟩, .string ⟨#[102]⟩, .pointer (some ⟨gf, 0, none⟩)] 81 (0, 0)) ∧ w.heap.size + 1 + 1 ≤ w'.heap.size ∧ (∀ k, k < w.heap.size → k ≠ gn → w'.heap[k]? = w.heap[k]?) ∧ ∀ B w0, Below B w0 w → B ≤ gn → Below B w0 w')
      case h =>
       go_region_with ((go_at_call 51; refine (apply_one gn gf (w.heap.size + 1) 0 _ (by exact nA) (by exact kA)).mono ?_; rintro e5 w5 ⟨rfl, n5, s5, o5, b5⟩))
       all_goals
        have sA : (v.alloc (.cells #[.string ⟨#[]⟩, .string ⟨#[102]⟩, .pointer (some ⟨gf, 0, none⟩)] 81)).drew.heap.size = w.heap.size + 1 + 1 := by show (v.alloc (.cells #[.string ⟨#[]⟩, .string ⟨#[102]⟩, .pointer (some ⟨gf, 0, none⟩)] 81)).heap.size = _; simp [sv]
        have hA : ∀ k, k < w.heap.size + 1 → (v.alloc (.cells #[.string ⟨#[]⟩, .string ⟨#[102]⟩, .pointer (some ⟨gf, 0, none⟩)] 81)).drew.heap[k]? = v.heap[k]? := fun k hk => Go.Deep.blk_alloc_lt _ _ _ (by omega)
        refine ⟨rfl, n5, ?_, ?_, by rw [← sA]; exact s5, fun k hk hk2 => ?_, fun B w0 hB hn => b5 B w0 ?_ hn⟩
        · rw [o5 g (by rw [sA]; omega) (Ne.symm hne), hA g (by omega)]; exact gv
        · rw [o5 w.heap.size (by rw [sA]; omega) (by omega), hA w.heap.size (by omega)]; exact kv
        · rw [o5 k (by rw [sA]; omega) hk2, hA k (by omega), ov k hk]
        · exact ((bv B w0 hB hn).alloc (by omega) _).drew
      case hq =>
       rintro W ⟨n6, g6, k6, s6, o6, b6⟩
       clear nA kA l0 l1 i0 i1 k0 k1 k2 c7 c9 f9 gv nv kv
       obtain ⟨c9, f9⟩ := dcell g6 9 (.slice none 0 0) rfl
       obtain ⟨k0, -⟩ := dcell k6 0 (.string ⟨#[]⟩) rfl
       obtain ⟨k1, -⟩ := dcell k6 1 (.string ⟨#[102]⟩) rfl
       obtain ⟨k2, -⟩ := dcell k6 2 (.pointer (some ⟨gf, 0, none⟩)) rfl
       have lW := (Array.getElem?_eq_some_iff.1 g6).1
       have HP : Hid (∀ (ch : Value) (o1 o2 : Obj), (∃ c2, (((W.setCell ⟨g, 9, none⟩ ch).alloc o1).alloc o2).drew.drew.heap[g]? = some (.cells (dk g q ops gp gn gd c2 used) 68 (0, 0))) ∧ (((W.setCell ⟨g, 9, none⟩ ch).alloc o1).alloc o2).drew.drew.heap[gn]? = some (.map (m1 gf 0) 1) ∧ w.heap.size ≤ (((W.setCell ⟨g, 9, none⟩ ch).alloc o1).alloc o2).drew.drew.heap.size ∧ (∀ k, k < w.heap.size → k ≠ gn → k ≠ g → (((W.setCell ⟨g, 9, none⟩ ch).alloc o1).alloc o2).drew.drew.heap[k]? = w.heap[k]?) ∧ ∀ B w0, Below B w0 w → B ≤ gn → B ≤ g → Below B w0 (((W.setCell ⟨g, 9, none⟩ ch).alloc o1).alloc o2).drew.drew) := by
         intro ch o1 o2
         have hs1 : (W.setCell ⟨g, 9, none⟩ ch).heap.size = W.heap.size := by simp
         have hb : ∀ k, k < W.heap.size → (((W.setCell ⟨g, 9, none⟩ ch).alloc o1).alloc o2).drew.drew.heap[k]? = (W.setCell ⟨g, 9, none⟩ ch).heap[k]? := fun k hk => (Go.Deep.blk_alloc_lt _ _ _ (by simp; omega)).trans (Go.Deep.blk_alloc_lt _ _ _ (by omega))
         have hs : (((W.setCell ⟨g, 9, none⟩ ch).alloc o1).alloc o2).drew.drew.heap.size = W.heap.size + 2 := by
           show (((W.setCell ⟨g, 9, none⟩ ch).alloc o1).alloc o2).heap.size = _; simp
         refine ⟨⟨ch, (hb g lW).trans (sc g6 9 ch)⟩, (hb gn (by omega)).trans (so n6 hne 9 ch), by rw [hs]; omega, fun k hk h1 h2 => ?_, fun B w0 hB hb1 hb2 => ?_⟩
         · rw [hb k (by omega), Go.Deep.blk_setCell_other _ _ _ _ h2]; exact o6 k hk h1
         · exact (((((b6 B w0 hB hb1).setCell hb2 _).alloc (by rw [hs1]; omega) _).alloc (by simp; omega) _).drew).drew
       clear o6 b6 n6 g6 k6
       go_wp2
       go_region_with (fail)
       all_goals
         go_wp2
         go_returns
         exact ⟨rfl, HP.out _ _ _⟩
end Pb
end Go.Proofs.YtiljdiagabepbaaDoor
