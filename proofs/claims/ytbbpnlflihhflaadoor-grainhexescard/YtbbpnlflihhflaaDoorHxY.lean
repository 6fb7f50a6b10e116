import Derived.Test.YtbbpnlflihhflaaDoorHxX
namespace Go.Proofs.YtbbpnlflihhflaaDoor
namespace Hx
open Go.RowKit
set_option linter.unusedVariables false
theorem rc_b (l : List UInt8) (v : Int) (h : rc l = some v) : 0 ≤ v ∧ v < 4294967296 := by
  unfold rc at h
  have hs := Rd.sg_b (Lib.hasPrefix l [45])
  split at h
  · injection h with h; omega
  · split at h
    · cases hn : nf 0 ((Lib.trimPrefix l [45]).drop 4) with
      | none => rw [hn] at h; cases h
      | some f =>
        rw [hn] at h
        simp only [Option.map_some] at h
        injection h with h
        omega
    · split at h
      · split at h
        · injection h with h; omega
        · cases h
      · injection h with h; omega
/-- Both readers answer the same. -/
theorem both (l : List UInt8) : ∃ A B : Int, (if hexL (lk l) = l then (#[.int .u32 (lk l), .int .i64 0] : Array Value) else #[.int .u32 0, .int .i64 15]) = #[.int .u32 A, .int .i64 B] ∧
    (match rc l with | none => (#[.int .u32 0, .int .i64 15] : Array Value) | some v => if hexL v = l then #[.int .u32 v, .int .i64 0] else #[.int .u32 0, .int .i64 15]) = #[.int .u32 A, .int .i64 B] := by
  by_cases h : ∃ u, 0 ≤ u ∧ u < 4294967296 ∧ hexL u = l
  · obtain ⟨u, h0, h1, rfl⟩ := h
    refine ⟨u, 0, ?_, ?_⟩
    · rw [lk_hex u h0 h1, if_pos rfl]
    · rw [rc_hex u h0 h1]
      simp only
      rw [if_pos trivial]
  · refine ⟨0, 15, ?_, ?_⟩
    · have hb := lk_b l
      rw [if_neg (fun e => h ⟨_, hb.1, hb.2, e⟩)]
    · cases hr : rc l with
      | none => rfl
      | some v =>
        have hb := rc_b l v hr
        simp only
        rw [if_neg (fun e => h ⟨_, hb.1, hb.2, e⟩)]
theorem num8 (x : Int) (w : World) : Calls Tryd.prog 8 #[.int .i64 x] w fun e w' => e = .returned (.int .i64 x) ∧ w' = w := by
  go_enter Tryd.func8, Tryd.ntmps8
  go_wp2
  go_ret
  exact ⟨rfl, rfl⟩
set_option maxRecDepth 100000 in
set_option maxHeartbeats 1000000 in
theorem law_any (u : Int) (h0 : 0 ≤ u) (h1 : u < 4294967296) (l : List UInt8) (hl : l.length ≤ 140737488351232) (w : World) (ht : Tb w) :
    Calls Tryd.prog 3 #[.int .u32 u, .string (bs l)] w fun e w' => e = .returned (.bool true) ∧ Below w.heap.size w w' := by
  obtain ⟨A, B, hA, hB⟩ := both l
  have HP : Hid (∀ W, Tb W → Calls Tryd.prog 4 #[.string (bs l)] W fun r w' => r = .returned (.tuple #[.int .u32 A, .int .i64 B]) ∧ Below W.heap.size W w') := fun W hW => by
    have h := readhex_any l hl W hW
    rw [hA] at h
    exact h
  have HQ : Hid (∀ W, Tb W → Calls Tryd.prog 5 #[.string (bs l)] W fun r w' => r = .returned (.tuple #[.int .u32 A, .int .i64 B]) ∧ Below W.heap.size W w') := fun W hW => by
    refine (rread_any l hl W hW).mono ?_
    rintro e w' ⟨rfl, hb⟩
    exact ⟨congrArg (fun x => Ending.returned (Value.tuple x)) hB, hb⟩
  have HX : Hid (∀ W, Tb W → Calls Tryd.prog 6 #[.int .u32 u] W fun r w' => r = .returned (.string (bs (hexL u))) ∧ Below W.heap.size W w') := fun W hW => hex_any u h0 h1 W hW
  have HY : Hid (∀ W, Tb W → Calls Tryd.prog 7 #[.int .u32 u] W fun r w' => r = .returned (.string (bs (hexL u))) ∧ Below W.heap.size W w') := fun W hW => rhex_any u h0 h1 W hW
  clear hA hB hl
  generalize bs (hexL u) = xx at *
  generalize bs l = ss at *
  go_enter Tryd.func3, Tryd.ntmps3
  go_wp2_with (fail)
  refine (HP.out _ ht).mono ?_
  rintro e1 w1 ⟨rfl, b1⟩
  have t1 := ht.on b1 (Nat.le_refl _)
  clear HP
  go_wp2_with (fail)
  refine (HQ.out _ t1).mono ?_
  rintro e2 w2 ⟨rfl, b2⟩
  have t2 := t1.on b2 (Nat.le_refl _)
  replace b2 := b1.trans (b2.mono b1.size)
  clear HQ t1 b1
  go_wp2_with (fail)
  refine (HX.out _ t2).mono ?_
  rintro e3 w3 ⟨rfl, b3⟩
  have t3 := t2.on b3 (Nat.le_refl _)
  replace b3 := b2.trans (b3.mono b2.size)
  clear HX t2 b2
  go_wp2_with (fail)
  refine (HY.out _ t3).mono ?_
  rintro e4 w4 ⟨rfl, b4⟩
  replace b4 := b3.trans (b4.mono b3.size)
  clear HY t3 b3
  have hq : (xx.toList == xx.toList) = true := by simp
  go_wp2_with (fail)
  refine (num8 B _).mono ?_
  rintro e5 w5 ⟨rfl, h5⟩
  subst w5
  go_wp2
  go_ret
  exact ⟨rfl, b4⟩
end Hx
end Go.Proofs.YtbbpnlflihhflaaDoor
