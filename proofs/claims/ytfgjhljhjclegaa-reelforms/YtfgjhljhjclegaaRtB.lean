import Derived.Test.YtfgjhljhjclegaaRtA
namespace Go.Proofs.Ytfgjhljhjclegaa
namespace Rt
open Go.RowKit
set_option linter.unusedVariables false
set_option maxRecDepth 8000
theorem ret_int {k : IntKind} {a b : Int} (h : a = b) : Ending.returned (.int k a) = .returned (.int k b) := by rw [h]
theorem num_any (x : Int) (w : World) : Calls Try.prog 11 #[.int .i64 x] w fun e w' => e = .returned (.int .i64 x) ∧ w' = w := by
  go_enter Try.func11, Try.ntmps11
  go_wp2
  go_ret
  exact ⟨rfl, rfl⟩
/-- How long a buffer is. -/
def rm (n : Int) : Nat := (min (max n 0) 4096).toNat
theorem rm_le (n : Int) : rm n ≤ 4096 := by unfold rm; omega
theorem room_any (n : Int) (w : World) (h0 : -9223372036854775808 ≤ n) (h1 : n ≤ 9223372036854775807) : Calls Try.prog 40 #[.int .i64 n] w fun e w' => e = .returned (.int .i64 (rm n)) ∧ w' = w := by
  have H : Hid ((rm n : Int) = min (max n 0) 4096) := by show _ = _; unfold rm; omega
  go_enter Try.func40, Try.ntmps40
  go_wp2
  all_goals
    go_ret
    exact ⟨ret_int (by rw [H.out]; omega), rfl⟩
theorem madeZero (n : Nat) : madeCells (Value.int .u8 0).cells (n * 1) = (vals (List.replicate n 0)).toArray := by
  have hc : (Value.int .u8 0).cells = #[.int .u8 0] := rfl
  rw [hc]
  apply Array.ext
  · simp [size_madeCells, vals]
  · intro i h1 h2
    simp [madeCells, vals, Nat.mod_one]
theorem make_bytes (n : Nat) (hn : n ≤ 1048576) (w : World) : (Instr.makeSlice 27 (.int .i64 n) (.int .i64 n)).run Try.prog w = .ok (.slice (some ⟨w.heap.size, 0, none⟩) n n) (w.alloc (.cells (vals (List.replicate n 0)).toArray 5)) := by
  have h := info5
  cases hh : Try.prog.info? 5 with
  | none => rw [hh] at h; cases h
  | some i =>
    rw [hh] at h
    simp at h
    have hr := run_make (P := Try.prog) w 27 5 i (.int .u8 0) Try.underlying27 hh h.1 .i64 .i64 n n (by omega) (by omega) (by rw [h.2.2]; omega) (by omega)
    rw [h.2.1] at hr
    rw [Int.toNat_natCast, madeZero] at hr
    exact hr
/-- So many bytes of 99, then zeros. -/
def nines (k m : Nat) : List Int := List.replicate k 99 ++ List.replicate (m - k) 0
theorem nines_len (k m : Nat) (h : k ≤ m) : (nines k m).length = m := by unfold nines; simp; omega
theorem nines_set (k m : Nat) (h : k < m) : (nines k m).set k 99 = nines (k + 1) m := by
  unfold nines
  rw [List.set_append_right _ _ (by simp), List.replicate_succ', show m - k = (m - (k + 1)) + 1 by omega, List.replicate_succ]
  simp
theorem nines_zero (m : Nat) : nines 0 m = List.replicate m 0 := by simp [nines]
theorem nines_all (m : Nat) : nines m m = List.replicate m 99 := by simp [nines]
set_option maxHeartbeats 800000 in
theorem buffer_any (n : Int) (w : World) (h0 : -9223372036854775808 ≤ n) (h1 : n ≤ 9223372036854775807) :
    Calls Try.prog 7 #[.int .i64 n] w fun e w' => e = .returned (.slice (some ⟨w.heap.size, 0, none⟩) (rm n) (rm n + 2)) ∧ Rw w' w.heap.size (List.replicate (rm n + 2) 99) ∧ Below w.heap.size w w' := by
  have hr := rm_le n
  have HM : Hid (∀ w, (Instr.makeSlice 27 (.int .i64 ((rm n + 2 : Nat) : Int)) (.int .i64 ((rm n + 2 : Nat) : Int))).run Try.prog w = .ok (.slice (some ⟨w.heap.size, 0, none⟩) (rm n + 2) (rm n + 2)) (w.alloc (.cells (vals (List.replicate (rm n + 2) 0)).toArray 5))) := fun w => make_bytes _ (by omega) w
  have HR : Hid (∀ w, Calls Try.prog 40 #[.int .i64 n] w fun e w' => e = .returned (.int .i64 (rm n)) ∧ w' = w) := fun w => room_any n w h0 h1
  have hN := Rw.new w (List.replicate (rm n + 2) 0)
  have HNW : Hid (Rw (w.alloc (.cells (vals (List.replicate (rm n + 2) 0)).toArray 5)) w.heap.size (List.replicate (rm n + 2) 0)) := hN
  have HB : Hid (Below w.heap.size w (w.alloc (.cells (vals (List.replicate (rm n + 2) 0)).toArray 5))) := (Below.refl _ _).alloc (Nat.le_refl _) _
  clear hN
  generalize rm n = r at *
  have e2 : ((r + 2 : Nat) : Int) = (r : Int) + 2 := by omega
  rw [e2] at HM
  have mk := HM.out w
  generalize w.alloc (.cells (vals (List.replicate (r + 2) 0)).toArray 5) = w1 at *
  go_enter Try.func7, Try.ntmps7
  go_wp2_with (go_at_call 40; refine (HR.out _).mono ?_; rintro e w9 ⟨rfl, hw9⟩; subst w9)
  go_loopw [4] (fun i wr => ∃ k : Nat, k ≤ r + 2 ∧ i = .int .i64 k ∧ Rw wr w.heap.size (nines k (r + 2)) ∧ Below w.heap.size w wr) (fun i _ => r + 2 - (intOf i).toNat)
  case atStart => exact ⟨0, Nat.zero_le _, rfl, by rw [nines_zero]; exact HNW.out, HB.out⟩
  case round =>
    obtain ⟨k, hk, rfl, hw, hb⟩ := hrel
    by_cases hlt : k < r + 2
    · have hc := hw.cell (j := k) (by rw [nines_len _ _ hk]; omega)
      have hf := hw.frozen k
      have hset := hw.set k 99
      rw [nines_set k _ hlt] at hset
      have hbs : Below w.heap.size w (wr.setCell ⟨w.heap.size, k, none⟩ (.int .u8 99)) := hb.setCell (Nat.le_refl _) _
      generalize (nines k (r + 2)).getD k 0 = old at *
      clear hw hb HNW HB mk HM HR
      go_wp2
      exact ⟨⟨k + 1, by omega, by go_num, hset, hbs⟩, by simp [intOf]; omega⟩
    · have hkk : k = r + 2 := by omega
      subst hkk
      rw [nines_all] at hw
      clear HNW HB mk HM
      go_wp2_with (go_at_call 40; refine (HR.out _).mono ?_; rintro e w9 ⟨rfl, hw9⟩; subst w9)
      go_ret
      exact ⟨rfl, hw, hb⟩
end Rt
end Go.Proofs.Ytfgjhljhjclegaa
