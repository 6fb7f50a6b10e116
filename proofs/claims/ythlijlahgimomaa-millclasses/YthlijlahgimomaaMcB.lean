import Derived.Test.YthlijlahgimomaaMcA
namespace Go.Proofs.Ythlijlahgimomaa
namespace Mc
open Go.RowKit
set_option linter.unusedVariables false
set_option maxRecDepth 8000
theorem cell_at (w : World) (c : Array Value) (t : TypeId) (i : Nat) : (w.alloc (.cells c t)).cell? ⟨w.heap.size, i, none⟩ = c[i]? := by
  unfold World.cell?
  rw [at0]
  rfl
/-- Numbers in a block. -/
def Rw (w : World) (b : Nat) (L : List Int) : Prop := ∀ (i : Nat) (e : Int), L[i]? = some e → w.cell? ⟨b, i, none⟩ = some (.int .i64 e)
set_option maxHeartbeats 2000000 in
theorem in_any (w : World) (b : Nat) (L : List Int) (n : Nat) (hL : L.length = n) (hn : n ≤ 100) (h : Rw w b L) (e : Int) (k : Bool) (hk : decide (e ∈ L) = k) :
    Calls Try.prog 6 #[.slice (some ⟨b, 0, none⟩) n n, .int .i64 e] w fun r w' => r = .returned (.bool k) ∧ w' = w := by
  have HR := hide h
  have HK := hide hk
  have HL := hide hL
  clear h hk hL
  go_enter Try.func6, Try.ntmps6
  go_wp2
  go_loop [5] (fun i => ∃ j : Nat, j ≤ n ∧ i = .int .i64 j ∧ Hid (∀ t x, t < j → L[t]? = some x → x ≠ e)) (fun i => n - (intOf i).toNat)
  case atStart => exact ⟨0, by omega, rfl, fun t x h => by omega⟩
  case round =>
    obtain ⟨j, hj, rfl, hg⟩ := hrel
    by_cases cc : j < n
    · obtain ⟨x, hx⟩ : ∃ x, L[j]? = some x := ⟨L[j]'(by rw [HL.out]; exact cc), List.getElem?_eq_getElem _⟩
      have hc := HR.out j x hx
      have HX := hide hx
      clear hx
      by_cases q : x = e
      · have HT : Hid (k = true) := by
          have := HK.out
          rw [decide_eq_true (by subst q; exact List.mem_of_getElem? HX.out)] at this
          exact this.symm
        have q1 : (x == e) = true := by simpa using q
        clear q hg
        go_wp2
        all_goals go_ret
        all_goals exact ⟨ret_bool HT.out.symm, rfl⟩
      · have q1 : (x == e) = false := by simpa using q
        have hg' : Hid (∀ t x, t < j + 1 → L[t]? = some x → x ≠ e) := fun t y ht hy => by
          by_cases u : t = j
          · subst u; rw [HX.out] at hy; cases hy; exact q
          · exact hg.out t y (by omega) hy
        clear q hg
        go_wp2
        exact ⟨⟨j + 1, cc, by go_num, hg'⟩, by simp [intOf]; omega⟩
    · have hjn : n = j := by omega
      have HF : Hid (k = false) := by
        have := HK.out
        rw [decide_eq_false (fun hm => by
          obtain ⟨t, ht⟩ := List.getElem?_of_mem hm
          have hl : t < L.length := by
            rcases Nat.lt_or_ge t L.length with q | q
            · exact q
            · rw [List.getElem?_eq_none q] at ht; cases ht
          exact hg.out t e (by have := HL.out; omega) ht rfl)] at this
        exact this.symm
      subst hjn
      clear hg cc hj
      go_wp2
      all_goals go_ret
      all_goals exact ⟨ret_bool HF.out.symm, rfl⟩
theorem rw3 (w : World) : Rw (w.alloc (.cells #[.int .i64 41, .int .i64 42, .int .i64 94, .int .i64 67] 3)) w.heap.size [41, 42, 94, 67] := by
  intro i e h
  match i, h with
  | 0, h => cases h; rw [cell_at]; rfl
  | 1, h => cases h; rw [cell_at]; rfl
  | 2, h => cases h; rw [cell_at]; rfl
  | 3, h => cases h; rw [cell_at]; rfl
  | (i + 4), h => simp at h
theorem rw4 (w : World) : Rw (w.alloc (.cells #[.int .i64 33, .int .i64 32] 3)) w.heap.size [33, 32] := by
  intro i e h
  match i, h with
  | 0, h => cases h; rw [cell_at]; rfl
  | 1, h => cases h; rw [cell_at]; rfl
  | (i + 2), h => simp at h
theorem rw5 (w : World) : Rw (w.alloc (.cells #[.int .i64 35, .int .i64 34, .int .i64 51, .int .i64 53, .int .i64 52] 3)) w.heap.size [35, 34, 51, 53, 52] := by
  intro i e h
  match i, h with
  | 0, h => cases h; rw [cell_at]; rfl
  | 1, h => cases h; rw [cell_at]; rfl
  | 2, h => cases h; rw [cell_at]; rfl
  | 3, h => cases h; rw [cell_at]; rfl
  | 4, h => cases h; rw [cell_at]; rfl
  | (i + 5), h => simp at h
theorem rw6 (w : World) : Rw (w.alloc (.cells #[.int .i64 60, .int .i64 61, .int .i64 62, .int .i64 63, .int .i64 64, .int .i64 65, .int .i64 66, .int .i64 78, .int .i64 31] 3)) w.heap.size [60, 61, 62, 63, 64, 65, 66, 78, 31] := by
  intro i e h
  match i, h with
  | 0, h => cases h; rw [cell_at]; rfl
  | 1, h => cases h; rw [cell_at]; rfl
  | 2, h => cases h; rw [cell_at]; rfl
  | 3, h => cases h; rw [cell_at]; rfl
  | 4, h => cases h; rw [cell_at]; rfl
  | 5, h => cases h; rw [cell_at]; rfl
  | 6, h => cases h; rw [cell_at]; rfl
  | 7, h => cases h; rw [cell_at]; rfl
  | 8, h => cases h; rw [cell_at]; rfl
  | (i + 9), h => simp at h
end Mc
end Go.Proofs.Ythlijlahgimomaa
