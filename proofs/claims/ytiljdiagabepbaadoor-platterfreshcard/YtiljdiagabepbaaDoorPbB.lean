import Derived.Test.YtiljdiagabepbaaDoorPbA
import Derived.Deep.WholeRow
import Derived.Deep.Heap
namespace Go.Proofs.YtiljdiagabepbaaDoor
namespace Pb
open Go.RowKit
set_option linter.unusedVariables false
theorem check_str (b : Bool) (s : ByteArray) (W : World) : (Instr.checkKey b 10000 9 (.string s)).run Tryd.prog W = .ok () W := by
  rw [show (10000 : Nat) = 9999 + 1 from rfl, Instr.checkKey]
  simp [run_underlying Tryd.underlying9]
theorem check_int (b : Bool) (k : Int) (W : World) : (Instr.checkKey b 10000 2 (.int .i64 k)).run Tryd.prog W = .ok () W := by
  rw [show (10000 : Nat) = 9999 + 1 from rfl, Instr.checkKey]
  simp [run_underlying Tryd.underlying2]
theorem get_map {W : World} {r c : Nat} {es : Array MapEntry} (h : W.heap[r]? = some (.map es c)) : (getObj r).run Tryd.prog W = .ok (.map es c) W := by simp [getObj, Sem.run, h]
theorem set_map {W : World} {r c : Nat} {es : Array MapEntry} (o : Obj) (h : W.heap[r]? = some (.map es c)) : (setObj r o).run Tryd.prog W = .ok () { W with heap := W.heap.setIfInBounds r o } := by simp [setObj, Sem.run, h]
theorem look_none (r : Nat) (c : Nat) (k : Int) (W : World) (h : W.heap[r]? = some (.map #[] c)) : (Instr.lookup 63 (.map (some r)) (.int .i64 k) false).run Tryd.prog W = .ok (.slice none 0 0) W := by
  simp [Instr.lookup, run_underlying Tryd.underlying63, get_map h, check_int, Instr.findKey, run_underlying Tryd.underlying2, Instr.findNow]
theorem look_str (r c : Nat) (es : Array MapEntry) (s : ByteArray) (res : Option (Nat × Value)) (W : World) (h : W.heap[r]? = some (.map es c)) (hf : Instr.findNow .string (.string s) es.toList 0 = some res) : (Instr.lookup 65 (.map (some r)) (.string s) false).run Tryd.prog W = .ok (match res with | some (_, v) => v | none => .pointer none) W := by
  cases res with
  | none => simp [Instr.lookup, run_underlying Tryd.underlying65, get_map h, check_str, Instr.findKey, run_underlying Tryd.underlying9, hf]
  | some p => obtain ⟨i, v⟩ := p; simp [Instr.lookup, run_underlying Tryd.underlying65, get_map h, check_str, Instr.findKey, run_underlying Tryd.underlying9, hf]
theorem upd_new (r c : Nat) (es : Array MapEntry) (s : ByteArray) (v : Value) (W : World) (h : W.heap[r]? = some (.map es c)) (hf : Instr.findNow .string (.string s) es.toList 0 = some none) : (Instr.mapUpdate 65 (.map (some r)) (.string s) v).run Tryd.prog W = .ok () { W with heap := W.heap.setIfInBounds r (.map (es.push { key := .string s, val := v, born := c }) (c + 1)) } := by
  simp [Instr.mapUpdate, run_underlying Tryd.underlying65, get_map h, check_str, Instr.findKey, run_underlying Tryd.underlying9, hf, set_map _ h]
theorem del_none (r c : Nat) (es : Array MapEntry) (s : ByteArray) (ty : TypeId) (W : World) (h : W.heap[r]? = some (.map es c)) (hf : Instr.findNow .string (.string s) es.toList 0 = some none) : (Builtin.delete_ #[65, 9] ty #[.map (some r), .string s]).run Tryd.prog W = .ok (.tuple #[]) { W with heap := W.heap.setIfInBounds r (.map es c) } := by
  simp [Builtin.delete_, run_underlying Tryd.underlying65, get_map h, check_str, Instr.findKey, run_underlying Tryd.underlying9, hf, set_map _ h]
set_option maxHeartbeats 800000 in
set_option maxRecDepth 8000 in
theorem isName_f (w : World) : Calls Tryd.prog 50 #[.string ⟨#[102]⟩] w fun e w' => e = .returned (.bool true) ∧ w' = w := by
  have hb : (((⟨#[102]⟩ : ByteArray)[0]'(by decide)).toNat : Int) = 102 := rfl
  go_enter Tryd.func50, Tryd.ntmps50
  go_wp2
  go_loop [15, 3, 4, 21] (fun i _ _ _ => ∃ k : Nat, k ≤ 1 ∧ i = .int .i64 k) (fun i _ _ _ => 1 - (intOf i).toNat)
  case atStart => exact ⟨0, by omega, rfl⟩
  case round =>
    obtain ⟨k, hk, rfl⟩ := hrel
    by_cases h : k < 1
    · obtain rfl : k = 0 := by omega
      go_wp2
      exact ⟨⟨1, by omega, rfl⟩, by simp [intOf]⟩
    · obtain rfl : k = 1 := by omega
      go_wp2
      go_ret
      exact ⟨rfl, rfl⟩
theorem dcell {w : World} {b : Nat} {c : Array Value} {t : TypeId} (h : w.heap[b]? = some (.cells c t (0, 0))) (i : Nat) (x : Value) (hx : c[i]? = some x) : w.cell? ⟨b, i, none⟩ = some x ∧ w.frozen? ⟨b, i, none⟩ = false := by
  constructor
  · simp only [World.cell?, h, hx]; rfl
  · simp [World.frozen?, h]
theorem size73 : (Tryd.prog.info? 73).map (·.size) = some 3 := by kernel_rfl
theorem sc {w : World} {g : Nat} {cur : Array Value} {t : TypeId} (h : w.heap[g]? = some (.cells cur t (0, 0))) (i : Nat) (v : Value) : (w.setCell ⟨g, i, none⟩ v).heap[g]? = some (.cells (cur.setIfInBounds i v) t (0, 0)) := by
  rw [setCell_eq_setRow w g i cur t (0, 0) v h]; exact setRow_heap w g _ _ t (0, 0) h
theorem so {w : World} {g k : Nat} {o : Obj} (h : w.heap[k]? = some o) (hk : k ≠ g) (i : Nat) (v : Value) : (w.setCell ⟨g, i, none⟩ v).heap[k]? = some o := by
  rw [Go.Deep.blk_setCell_other _ _ _ _ hk]; exact h
theorem fl3 {w : World} {g : Nat} {x y z a b c : Value} {t : TypeId} (h : w.heap[g]? = some (.cells #[x, y, z] t (0, 0))) : (((w.setCell ⟨g, 0, none⟩ a).setCell ⟨g, 1, none⟩ b).setCell ⟨g, 2, none⟩ c).drew.heap[g]? = some (.cells #[a, b, c] t (0, 0)) := sc (sc (sc h 0 a) 1 b) 2 c
set_option maxHeartbeats 800000 in
set_option maxRecDepth 8000 in
theorem strikes_none (g gp gn gd : Nat) (q ops used : Int) (ch : Value) (c : Int) (w : World) (hg : w.heap[g]? = some (.cells (dk g q ops gp gn gd ch used) 68 (0, 0))) (hp : w.heap[gp]? = some (.map #[] 0)) : Calls Tryd.prog 49 #[.pointer (some ⟨g, 0, none⟩), .int .u8 c] w fun e w' => e = .returned (.agg #[.int .i64 0, .int .i64 0, .int .i64 0]) ∧ Below w.heap.size w w' := by
  have c2 := (dcell hg 2 (.int .i64 ops) rfl).1
  have c5 := (dcell hg 5 (.map (some gp)) rfl).1
  obtain ⟨v, hv, hvb, lv⟩ : ∃ v, w.alloc (.cells #[.int .i64 0, .int .i64 0, .int .i64 0] 73) = v ∧ Below w.heap.size w v ∧ v.heap[w.heap.size]? = some (.cells #[.int .i64 0, .int .i64 0, .int .i64 0] 73 (0, 0)) := ⟨_, rfl, (Below.refl _ _).alloc (Nat.le_refl _) _, heap_alloc_last w _⟩
  have hl := look_none gp 0 ops v.drew ((hvb.block gp (Array.getElem?_eq_some_iff.1 hp).1).trans hp)
  have d2 := (hvb.cell (p := ⟨g, 2, none⟩) (Array.getElem?_eq_some_iff.1 hg).1).trans c2
  have d5 := (hvb.cell (p := ⟨g, 5, none⟩) (Array.getElem?_eq_some_iff.1 hg).1).trans c5
  clear c2 c5
  go_enter Tryd.func49, Tryd.ntmps49
  go_wp2
  clear hv
  go_region
  all_goals
    obtain ⟨l0, m0⟩ := dcell (w := v) lv 0 (.int .i64 0) rfl
    obtain ⟨l1, m1⟩ := dcell (w := v) lv 1 (.int .i64 0) rfl
    obtain ⟨l2, m2⟩ := dcell (w := v) lv 2 (.int .i64 0) rfl
    go_wp2
    go_loop [17, 6] (fun i _ => i = .int .i64 0) (fun _ _ => 0)
    case atStart => rfl
    case round =>
      subst hrel
      go_wp2
      have lv3 := fl3 (a := .int .i64 0) (b := .int .i64 0) (c := .int .i64 0) lv
      have hld := run_loadVar_row (P := Tryd.prog) _ _ 73 73 _ (0, 0) _ lv3 Tryd.underlying73 rfl size73
      have hbel : Below w.heap.size w (((v.setCell ⟨w.heap.size, 0, none⟩ (.int .i64 0)).setCell ⟨w.heap.size, 1, none⟩ (.int .i64 0)).setCell ⟨w.heap.size, 2, none⟩ (.int .i64 0)).drew := (((hvb.setCell (Nat.le_refl _) _).setCell (Nat.le_refl _) _).setCell (Nat.le_refl _) _).drew
      refine bodyPost_ret (v := .agg #[.int .i64 0, .int .i64 0, .int .i64 0]) ?_ rfl ⟨rfl, hbel⟩
      simp [results, Tryd.results49, asAddr, hld]
end Pb
end Go.Proofs.YtiljdiagabepbaaDoor
