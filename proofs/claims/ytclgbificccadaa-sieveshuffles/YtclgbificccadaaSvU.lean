import Derived.Test.YtclgbificccadaaSvT
import Derived.BigRegion
namespace Go.Proofs.Ytclgbificccadaa
namespace Sv
open Go.RowKit Go.Shelf
set_option linter.unusedVariables false
attribute [local go_sem] Oper.semAt_some
theorem Rv.cells3 {w : World} {g : Nat} {L : List T3} {T : List Value} (h : Rv w g 44 (cl .u64 L ++ T)) {j : Nat} {e : T3} (he : L[j]? = some e) :
    w.cell? ⟨g, j * 3, none⟩ = some (.int .u32 e.1) ∧ w.cell? ⟨g, j * 3 + 1, none⟩ = some (.int .u64 e.2.1) ∧ w.cell? ⟨g, j * 3 + 2, none⟩ = some (.int .u64 e.2.2) :=
  Bx.cells (pa := some ⟨g, 0, none⟩) (T := T) (fun _ => ⟨rfl, h⟩) he
set_option maxRecDepth 20000 in
set_option maxHeartbeats 4000000 in
theorem marked_any (g c n : Nat) (L : List T3) (T : List Value) (hl : L.length = n) (hc : n + 2 ≤ c) (hn : (n + 2) * 24 ≤ 140737488355328) (w : World) (h : Rv w g 44 (cl .u64 (L ++ [m77, m78]) ++ T)) :
    Calls Try.prog 26 #[.slice (some ⟨g, 0, none⟩) n c] w fun e w' => e = .returned (.bool true) ∧ w' = w := by
  obtain ⟨x0, x1, x2⟩ := h.cells3 (j := n) (e := m77) (by rw [List.getElem?_append_right (by omega), hl]; simp)
  obtain ⟨y0, y1, y2⟩ := h.cells3 (j := n + 1) (e := m78) (by rw [List.getElem?_append_right (by omega), hl]; simp)
  have hc' : (n : Int) + 2 ≤ (c : Int) := by omega
  have hn1 : (n : Int) + 1 < (n : Int) + 2 := by omega
  have hn0 : (n : Int) < (n : Int) + 2 := by omega
  clear h hl
  go_enter Try.func26, Try.ntmps26
  go_wp2
  go_ret
  exact ⟨rfl, rfl⟩
set_option maxRecDepth 20000 in
set_option maxHeartbeats 4000000 in
theorem samed_any (g c : Nat) (x : Option Addr) (c2 : Nat) (L : List T3) (T : List Value) (hn : L.length * 24 ≤ 140737488355328) (w : World) (h : Rv w g 44 (cl .u64 L ++ T)) (hr : Row3 .u64 w x L) :
    Calls Try.prog 27 #[.slice (some ⟨g, 0, none⟩) L.length c, .slice x L.length c2] w fun e w' => e = .returned (.bool true) ∧ Below w.heap.size w w' := by
  have HR : Hid (∀ W, Below w.heap.size w W → Row3 .u64 W x L) := fun W hW => hr.on hW (Nat.le_refl _)
  have HG : Hid (∀ W, Below w.heap.size w W → Rv W g 44 (cl .u64 L ++ T)) := fun W hW => h.on hW h.lt
  clear hr h
  go_enter Try.func27, Try.ntmps27
  go_wp2
  go_loopw [5] (fun i wr => ∃ j : Nat, j ≤ L.length ∧ i = .int .i64 (j : Int) ∧ Below w.heap.size w wr) (fun i _ => L.length - (intOf i).toNat)
  case atStart => exact ⟨0, Nat.zero_le _, rfl, Below.refl _ _⟩
  case round =>
    obtain ⟨j, hj, rfl, hB⟩ := hrel
    by_cases hjl : j < L.length
    · obtain ⟨e, he⟩ : ∃ e, L[j]? = some e := ⟨L[j], List.getElem?_eq_getElem hjl⟩
      obtain ⟨x, rfl, hx⟩ := HR.out wr hB (by omega)
      obtain ⟨x0, x1, x2⟩ := cells3 (hx.2 j e he)
      obtain ⟨y0, y1, y2⟩ := (HG.out wr hB).cells3 he
      have hjl' : (j : Int) < (L.length : Int) := by omega
      clear hx he
      go_wp2
      go_region
      all_goals
        go_wp2
        exact ⟨⟨j + 1, by omega, by go_num, hB.drew⟩, by simp [intOf]; omega⟩
    · obtain rfl : j = L.length := by omega
      go_wp2
      go_ret
      exact ⟨rfl, hB⟩
set_option maxRecDepth 20000 in
set_option maxHeartbeats 4000000 in
theorem untouched_any (g c n : Nat) (T : List Value) (hn : n * 24 ≤ 140737488355328) (w : World) (h : Rv w g 44 (cl .u64 (List.replicate n (99, 0, 0)) ++ T)) :
    Calls Try.prog 28 #[.slice (some ⟨g, 0, none⟩) n c] w fun e w' => e = .returned (.bool true) ∧ w' = w := by
  go_enter Try.func28, Try.ntmps28
  go_wp2
  go_loop [3] (fun i => ∃ j : Nat, j ≤ n ∧ i = .int .i64 (j : Int)) (fun i => n - (intOf i).toNat)
  case atStart => exact ⟨0, Nat.zero_le _, rfl⟩
  case round =>
    obtain ⟨j, hj, rfl⟩ := hrel
    by_cases hjl : j < n
    · obtain ⟨y0, y1, y2⟩ := h.cells3 (j := j) (e := (99, 0, 0)) (by rw [List.getElem?_replicate, if_pos hjl])
      have hjl' : (j : Int) < (n : Int) := by omega
      clear h
      go_wp2
      exact ⟨⟨j + 1, by omega, by go_num⟩, by simp [intOf]; omega⟩
    · obtain rfl : j = n := by omega
      clear h
      go_wp2
      go_ret
      exact ⟨rfl, rfl⟩
end Sv
end Go.Proofs.Ytclgbificccadaa
