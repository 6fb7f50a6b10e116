import Derived.Test.YtdfgknmajcehiaaPeP
namespace Go.Proofs.Ytdfgknmajcehiaa
namespace Pe
open Go.RowKit
set_option linter.unusedVariables false
set_option maxRecDepth 8000
/-- The first number from a on that has no common divisor with n. -/
def Fst (n a j : Nat) : Prop := a ≤ j ∧ j < n ∧ Nat.gcd n j = 1 ∧ ∀ i, a ≤ i → i < j → ¬ Nat.gcd n i = 1
theorem gcd_pred (n : Nat) (h : 1 ≤ n) : Nat.gcd n (n - 1) = 1 := by
  have h1 : Nat.gcd n (n - 1) ∣ n := Nat.gcd_dvd_left _ _
  have h2 : Nat.gcd n (n - 1) ∣ n - 1 := Nat.gcd_dvd_right _ _
  have h3 := Nat.dvd_sub h1 h2
  rw [show n - (n - 1) = 1 by omega] at h3
  exact Nat.dvd_one.mp h3
theorem fst_from (n : Nat) (h : 1 ≤ n) : ∀ d a, a + d + 1 = n → ∃ j, Fst n a j := by
  intro d
  induction d with
  | zero =>
    intro a ha
    exact ⟨a, Nat.le_refl _, by omega, by rw [show a = n - 1 by omega]; exact gcd_pred n h, fun i h1 h2 => by omega⟩
  | succ d ih =>
    intro a ha
    by_cases hg : Nat.gcd n a = 1
    · exact ⟨a, Nat.le_refl _, by omega, hg, fun i h1 h2 => by omega⟩
    · obtain ⟨j, h1, h2, h3, h4⟩ := ih (a + 1) (by omega)
      refine ⟨j, by omega, h2, h3, fun i k1 k2 => ?_⟩
      by_cases e : i = a
      · rw [e]; exact hg
      · exact h4 i (by omega) k2
theorem fst_is (n a : Nat) (h : a < n) : ∃ j, Fst n a j := fst_from n (by omega) (n - 1 - a) a (by omega)
abbrev z3 : Array Value := #[.int .u32 0, .int .u32 0, .int .u32 0]
theorem setCell_drewN (w : World) (k : Nat) (q : Addr) (v : Value) : (w.drewN k).setCell q v = (w.setCell q v).drewN k := by
  unfold World.setCell
  simp only [World.heap_drewN]
  repeat' split
  all_goals rfl
theorem set_rk (w : World) (n i c x : Int) : ((w.alloc (.cells z3 54)).alloc (.cells (rk n i c) 54)).setCell ⟨w.heap.size + 1, 1, none⟩ (.int .u32 x) = ((w.alloc (.cells z3 54)).alloc (.cells (rk n x c) 54)) := by
  go_simp
theorem set_z3 (w : World) (n i c : Int) (o : Obj) : ((((w.alloc (.cells z3 54)).alloc o).setCell ⟨w.heap.size, 0, none⟩ (.int .u32 n)).setCell ⟨w.heap.size, 1, none⟩ (.int .u32 i)).setCell ⟨w.heap.size, 2, none⟩ (.int .u32 c) = ((w.alloc (.cells (rk n i c) 54)).alloc o) := by
  go_simp
set_option maxHeartbeats 2000000 in
theorem rank_no (n : Nat) (sd : Int) (h : ¬ Sz n) (w : World) : Calls Try.prog 20 #[.int .u32 (n : Int), .int .u64 sd] w fun e w' => e = .returned (.tuple #[.agg z3, .int .i64 2]) ∧ Below w.heap.size w w' := by
  have HS := hide (size_any n false (by simp [h]))
  clear h
  go_enter Try.func20, Try.ntmps20
  go_wp2_with (first | (go_at_call 26; refine (HS.out _).mono ?_; rintro e9 w9 ⟨rfl, hw9⟩; subst w9))
  refine bodyPost_ret (v := .tuple #[.agg z3, .int .i64 2]) ?_ rfl ⟨rfl, by repeat first | exact Below.refl _ _ | refine belowD ?_ | refine belowN ?_ _ | refine bA ?_ (by first | exact Nat.le_refl _ | (simp only [World.size_alloc]; omega)) _⟩
  simp only [results, Try.results20, asAddr]
  go_simp
set_option maxHeartbeats 2000000 in
theorem rank_ok (n sd j : Nat) (h : Sz n) (hs : sd < 18446744073709551616) (hj : Fst n (sd / 4294967296 % n) j) (w : World) : Calls Try.prog 20 #[.int .u32 (n : Int), .int .u64 (sd : Int)] w fun e w' => e = .returned (.tuple #[.agg (rk n j ((sd % n : Nat) : Int)), .int .i64 0]) ∧ Below w.heap.size w w' := by
  have HS := hide (size_any n true (by simp [h.1, h.2]))
  obtain ⟨h1, h2⟩ := h
  have g1 : ¬ (n : Int) = 0 := by omega
  have g2 : ((n : Int) == 0) = false := by simp; omega
  obtain ⟨a, ha⟩ : ∃ a, sd / 4294967296 % n = a := ⟨_, rfl⟩
  have ha2 : a < n := by rw [← ha]; exact Nat.mod_lt _ (by omega)
  have ha3 : (sd : Int) / 4294967296 % (n : Int) = (a : Int) := by rw [← ha]; rfl
  obtain ⟨c, hc⟩ : ∃ c, sd % n = c := ⟨_, rfl⟩
  have hc2 : c < n := by rw [← hc]; exact Nat.mod_lt _ (by omega)
  have hc3 : (sd : Int) % (n : Int) = (c : Int) := by rw [← hc]; rfl
  rw [ha] at hj
  rw [hc]
  have HJ : Hid (Fst n a j) := hj
  clear ha hc hj
  go_enter Try.func20, Try.ntmps20
  go_wp2_with (first | (go_at_call 26; refine (HS.out _).mono ?_; rintro e9 w9 ⟨rfl, hw9⟩; subst w9))
  go_region
  all_goals go_wp2
  go_loopw [24] (fun v wr => ∃ (i m : Nat), a ≤ i ∧ i ≤ j ∧ wr = ((w.alloc (.cells z3 54)).alloc (.cells (rk n i c) 54)).drewN m) (fun _ wr => match wr.cell? ⟨w.heap.size + 1, 1, none⟩ with | some v => j - (intOf v).toNat | none => 0)
  case atStart => exact ⟨a, 1, Nat.le_refl _, HJ.out.1, rfl⟩
  case round =>
    clear HS ha2 ha3 hc3
    obtain ⟨i, m, hi1, hi2, rfl⟩ := hrel
    have hj2 : j < n := HJ.out.2.1
    by_cases he : i = j
    · subst he
      have HD := hide (div_any n i 1 (by omega) (by omega) HJ.out.2.2.1)
      go_wp2_with (first | (go_at_call 27; refine (HD.out _).mono ?_; rintro e9 w9 ⟨rfl, m9, hw9⟩; subst w9))
      rw [setCell_drewN, setCell_drewN, setCell_drewN, set_z3]
      refine bodyPost_ret (v := .tuple #[.agg (rk n i c), .int .i64 0]) ?_ rfl ⟨rfl, by repeat first | exact Below.refl _ _ | refine belowD ?_ | refine belowN ?_ _ | refine bA ?_ (by first | exact Nat.le_refl _ | (simp only [World.size_alloc]; omega)) _⟩
      simp only [results, Try.results20, asAddr]
      go_simp
    · obtain ⟨g, hg⟩ : ∃ g, Nat.gcd n i = g := ⟨_, rfl⟩
      have HD := hide (div_any n i g (by omega) (by omega) hg)
      have hg1 : ¬ g = 1 := by rw [← hg]; exact HJ.out.2.2.2 i hi1 (by omega)
      have hb : ((g : Int) == 1) = false := by simp; omega
      have hb2 : ((g : Int) != 1) = true := by simp [bne, hb]
      clear hg hg1
      go_wp2_with (first | (go_at_call 27; refine (HD.out _).mono ?_; rintro e9 w9 ⟨rfl, m9, hw9⟩; subst w9))
      rw [setCell_drewN, set_rk]
      refine ⟨⟨i + 1, _, by omega, by omega, rfl⟩, ?_⟩
      have e1 := (k3 (t := 54) (at0 (w.alloc (.cells z3 54)) (.cells (rk n ((i + 1 : Nat) : Int) c) 54))).2.1
      have e2 := (k3 (t := 54) (at0 (w.alloc (.cells z3 54)) (.cells (rk n (i : Int) c) 54))).2.1
      rw [World.size_alloc] at e1 e2
      simp only [World.cell?_drewN]
      rw [show ((i : Int) + 1) = ((i + 1 : Nat) : Int) from rfl, e1, e2]
      simp only [intOf]
      omega
end Pe
end Go.Proofs.Ytdfgknmajcehiaa
