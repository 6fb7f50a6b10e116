import Derived.Test.YtfgjhljhjclegaaRtB
namespace Go.Proofs.Ytfgjhljhjclegaa
namespace Rt
open Go.RowKit
set_option linter.unusedVariables false
set_option maxRecDepth 8000
/-- What may lie behind the address of a list of bytes. -/
def Src (w : World) (a : Option Addr) (m : Nat) (X : List Int) : Prop := X.length = m ∧ (0 < m → ∃ h, a = some ⟨h, 0, none⟩ ∧ ∀ i, i < m → w.cell? ⟨h, i, none⟩ = some (.int .u8 (X.getD i 0)))
set_option maxHeartbeats 1600000 in
theorem laid_yes (g n c m cc : Nat) (a : Option Addr) (L X : List Int) (w : World) (hw : Rw w g L) (hn : n ≤ L.length) (hm : m ≤ n) (hcm : n ≤ 1048576) (hs : Src w a m X)
    (he : ∀ i, i < n → L.getD i 0 = if i < m then X.getD i 0 else 99) :
    Calls Try.prog 12 #[.slice (some ⟨g, 0, none⟩) n c, .slice a m cc] w fun e w' => e = .returned (.bool true) ∧ w' = w := by
  have HE : Hid (∀ i, i < n → L.getD i 0 = if i < m then X.getD i 0 else 99) := he
  have HW : Hid (Rw w g L) := hw
  obtain ⟨hl, hs⟩ := hs
  have HS : Hid (0 < m → ∃ h, a = some ⟨h, 0, none⟩ ∧ ∀ i, i < m → w.cell? ⟨h, i, none⟩ = some (.int .u8 (X.getD i 0))) := hs
  clear he hw hs
  go_enter Try.func12, Try.ntmps12
  go_wp2
  go_loop [5] (fun i => ∃ k : Nat, k ≤ n ∧ i = .int .i64 k) (fun i => n - (intOf i).toNat)
  case atStart => exact ⟨0, Nat.zero_le _, rfl⟩
  case round =>
    obtain ⟨k, hk, rfl⟩ := hrel
    by_cases hlt : k < n
    · have hc := HW.out.cell (j := k) (by omega)
      have he := HE.out k hlt
      by_cases hkm : k < m
      · rw [if_pos hkm] at he
        obtain ⟨h, rfl, hs⟩ := HS.out (by omega)
        have hc2 := hs k hkm
        rw [he] at hc
        generalize X.getD k 0 = y at *
        clear hs he HS HE HW
        go_wp2
        exact ⟨⟨k + 1, by omega, by go_num⟩, by simp [intOf]; omega⟩
      · rw [if_neg hkm] at he
        rw [he] at hc
        clear he HS HE HW
        go_wp2
        exact ⟨⟨k + 1, by omega, by go_num⟩, by simp [intOf]; omega⟩
    · obtain rfl : k = n := by omega
      clear HS HE HW
      go_wp2
      go_ret
      exact ⟨rfl, rfl⟩
/-- The first k bytes of a text as it is read back. -/
def half (t : ByteArray) (k n : Nat) : List Int := over (List.replicate n 0) 0 ((tb t).take k)
theorem half_zero (t : ByteArray) (n : Nat) : half t 0 n = List.replicate n 0 := by unfold half over; simp
theorem half_len (t : ByteArray) (k n : Nat) (h : k ≤ n) : (half t k n).length = n := by
  unfold half; rw [over_len _ _ _ (by simp; omega)]; simp
theorem half_set (t : ByteArray) (k n : Nat) (h : k < n) (hk : k < t.size) : (half t k n).set k (t[k].toNat : Int) = half t (k + 1) n := by
  have hl := tb_len t
  have e : (tb t).take (k + 1) = (tb t).take k ++ [(t[k].toNat : Int)] := by
    rw [List.take_succ_eq_append_getElem (by omega)]
    congr 2
    simp [tb]; rfl
  have e1 : ((tb t).take k).length = k := by simp; omega
  unfold half over
  rw [e]
  simp only [List.take_zero, List.nil_append, Nat.zero_add, List.length_append, e1, List.drop_replicate, List.length_cons, List.length_nil]
  rw [List.set_append_right _ _ (by omega), e1, Nat.sub_self, show n - k = (n - (k + 1)) + 1 by omega, List.replicate_succ]
  simp
theorem half_all (t : ByteArray) (k n : Nat) (h : k = n ∨ k = t.size) (hk : k ≤ t.size) (hn : k ≤ n) : half t k n = txt t n := by
  have hl := tb_len t
  unfold half over txt
  simp only [List.take_zero, List.nil_append, Nat.zero_add, List.drop_replicate, List.length_take, hl, Nat.min_eq_left hk]
  rcases h with rfl | rfl
  · rw [show k - t.size = 0 by omega, Nat.sub_self]
  · rw [List.take_of_length_le (l := tb t) (by omega), List.take_of_length_le (l := tb t) (by omega)]
set_option maxHeartbeats 1600000 in
theorem record_any (t : ByteArray) (n : Nat) (w : World) (hn : n ≤ 256) (ht : t.size ≤ 9223372036854775807) :
    Calls Try.prog 13 #[.string t, .int .i64 n] w fun e w' => e = .returned (.string (bstr (txt t n))) ∧ Below w.heap.size w w' := by
  have mk := make_bytes n (by omega) w
  have HN : Hid (Rw (w.alloc (.cells (vals (List.replicate n 0)).toArray 5)) w.heap.size (List.replicate n 0)) := Rw.new w _
  have HB : Hid (Below w.heap.size w (w.alloc (.cells (vals (List.replicate n 0)).toArray 5))) := (Below.refl _ _).alloc (Nat.le_refl _) _
  generalize w.alloc (.cells (vals (List.replicate n 0)).toArray 5) = w1 at *
  go_enter Try.func13, Try.ntmps13
  go_wp2
  go_loopw [6] (fun i wr => ∃ k : Nat, k ≤ n ∧ k ≤ t.size ∧ i = .int .i64 k ∧ Rw wr w.heap.size (half t k n) ∧ Below w.heap.size w wr) (fun i _ => n - (intOf i).toNat)
  case atStart => exact ⟨0, Nat.zero_le _, Nat.zero_le _, rfl, by rw [half_zero]; exact HN.out, HB.out⟩
  case round =>
    obtain ⟨k, hk, hkt, rfl, hw, hb⟩ := hrel
    clear mk HN HB
    have fin : (k = n ∨ k = t.size) → Hid ((convert 27 9 (.slice (some ⟨w.heap.size, 0, none⟩) n n)).run Try.prog wr = .ok (.string (bstr (txt t n))) wr) := fun h => by
      have hl := half_len t k n hk
      have := run_text wr 27 9 w.heap.size n n _ Try.underlying27 Try.underlying9 hw (by omega)
      rw [List.take_of_length_le (by omega), half_all t k n h hkt hk] at this
      exact this
    by_cases hlt : k < n
    · by_cases hlt2 : k < t.size
      · have hc := hw.cell (j := k) (by rw [half_len _ _ _ hk]; omega)
        have hf := hw.frozen k
        have hset := hw.set k (t[k].toNat : Int)
        rw [half_set t k n hlt hlt2] at hset
        have hbs : Below w.heap.size w (wr.setCell ⟨w.heap.size, k, none⟩ (.int .u8 (t[k].toNat : Int))) := hb.setCell (Nat.le_refl _) _
        generalize (half t k n).getD k 0 = old at *
        clear hw hb fin
        go_wp2
        exact ⟨⟨k + 1, by omega, by omega, by go_num, hset, hbs⟩, by simp [intOf]; omega⟩
      · have f := fin (.inr (by omega))
        obtain rfl : k = t.size := by omega
        clear fin hw
        have f' := f.out
        go_wp2
        go_ret
        exact ⟨rfl, hb⟩
    · have f := fin (.inl (by omega))
      obtain rfl : k = n := by omega
      clear fin hw
      have f' := f.out
      go_wp2
      go_ret
      exact ⟨rfl, hb⟩
end Rt
end Go.Proofs.Ytfgjhljhjclegaa
