import Derived.Test.YtbbpnlflihhflaaDoorHxI
namespace Go.Proofs.YtbbpnlflihhflaaDoor
namespace Hx
open Go.RowKit
set_option linter.unusedVariables false
def sgn (u : Int) : List UInt8 := if 2147483648 ≤ u then [45] else []
def tl (u : Int) : List UInt8 := if Cl.cls u = 4 then 110 :: 97 :: 110 :: 58 :: hx (u % 8388608).toNat else [105, 110, 102]
def px (e : Int) : List UInt8 := (if 0 ≤ e then [43] else []) ++ Lib.itoa e
def hexL (u : Int) : List UInt8 := sgn u ++ (if 2139095040 ≤ u % 2147483648 then tl u else if u % 2147483648 = 0 then [48, 120, 48, 112, 43, 48] else 48 :: 120 :: 49 :: dot (frac (lead (Cl.pm u))) ++ [112] ++ px (Cl.pe u + Rd.lg (Cl.pm u)))
theorem lit (l : List UInt8) : ({ data := l.toArray } : ByteArray) = bs l := rfl
theorem hx_len16 (n : Nat) (h : n < 18446744073709551616) : (hx n).length ≤ 16 := by
  have := hx_len 16 n (by omega); omega
set_option maxHeartbeats 800000 in
set_option maxRecDepth 100000 in
theorem unreal_any (u : Int) (h0 : 0 ≤ u) (h1 : u < 4294967296) (w : World) (ht : Tb w) :
    Calls Tryd.prog 14 #[.int .u32 u] w fun r w' => r = .returned (.string (bs (sgn u ++ tl u))) ∧ Below w.heap.size w w' := by
  have HC : Hid (∀ W, Calls Tryd.prog 32 #[.int .u32 u] W fun r W' => r = .returned (.int .i64 (Cl.cls u)) ∧ W' = W) := fun W => Cl.class_any u h0 h1 W
  have hand := Cl.and_low u h0 h1
  have hr0 : 0 ≤ u % 8388608 := by omega
  have hr1 : u % 8388608 < 8388608 := by omega
  obtain ⟨n, hn⟩ : ∃ n : Nat, n = (u % 8388608).toNat := ⟨_, rfl⟩
  have hnr : u % 8388608 = (n : Int) := by omega
  have HF : Hid (∀ W, Tb W → Calls Tryd.prog 21 #[.int .u64 (n : Int), .int .i64 16] W fun r W' => r = .returned (.string (bs (hx n))) ∧ Below W.heap.size W W') := fun W hW => fmt_any n (by omega) W hW.t64
  have hl := hx_len16 n (by omega)
  have hsz := bs_size (hx n)
  have HE : Hid (tl u = if Cl.cls u = 4 then 110 :: 97 :: 110 :: 58 :: hx n else [105, 110, 102]) := by show tl u = _; unfold tl; rw [← hn]
  have hs16 : (bs (hx n)).size ≤ 16 := by omega
  have hn8 : (n : Int) < 8388608 := by omega
  clear hl hsz hn hr0 hr1
  rw [hnr] at hand
  obtain ⟨a, ha⟩ : ∃ a : Int, a = (n : Int) := ⟨_, rfl⟩
  rw [← ha] at hand HF hn8
  have ha0 : 0 ≤ a := by omega
  clear hnr ha
  have HS : Hid (sgn u = if 2147483648 ≤ u then [45] else []) := rfl
  by_cases hc : Cl.cls u = 4
  · have E := HE.out; rw [if_pos hc] at E
    rw [hc] at HC
    clear HE hc
    by_cases hs : 2147483648 ≤ u
    · have E2 := HS.out; rw [if_pos hs] at E2
      rw [E, E2]
      clear HS E E2
      generalize hx n = l at *
      go_enter Tryd.func14, Tryd.ntmps14
      go_wp2_with (first | (go_at_call 32; refine (HC.out _).mono ?_; rintro e9 w9 ⟨rfl, hw9⟩; subst w9) | (go_at_call 21; refine (HF.out _ ht).mono ?_; rintro e9 w1 ⟨rfl, hb⟩))
      go_ret
      refine ⟨?_, hb⟩
      have e1 : ({ data := #[45] } : ByteArray) = bs [45] := rfl
      have e2 : ({ data := #[110, 97, 110, 58] } : ByteArray) = bs [110, 97, 110, 58] := rfl
      rw [e1, e2, bs_append, bs_append]; rfl
    · have E2 := HS.out; rw [if_neg hs] at E2
      rw [E, E2]
      have hs' : u < 2147483648 := by omega
      clear HS E E2 hs
      generalize hx n = l at *
      go_enter Tryd.func14, Tryd.ntmps14
      go_wp2_with (first | (go_at_call 32; refine (HC.out _).mono ?_; rintro e9 w9 ⟨rfl, hw9⟩; subst w9) | (go_at_call 21; refine (HF.out _ ht).mono ?_; rintro e9 w1 ⟨rfl, hb⟩))
      go_ret
      refine ⟨?_, hb⟩
      have e2 : ({ data := #[110, 97, 110, 58] } : ByteArray) = bs [110, 97, 110, 58] := rfl
      rw [e2, bs_append]; rfl
  · have E := HE.out; rw [if_neg hc] at E
    generalize Cl.cls u = k at *
    clear HE HF hand hs16 hn8 ha0
    by_cases hs : 2147483648 ≤ u
    · have E2 := HS.out; rw [if_pos hs] at E2
      rw [E, E2]
      clear HS E E2
      go_enter Tryd.func14, Tryd.ntmps14
      go_wp2_with (go_at_call 32; refine (HC.out _).mono ?_; rintro e9 w9 ⟨rfl, hw9⟩; subst w9)
      go_ret
      exact ⟨rfl, Below.refl _ _⟩
    · have E2 := HS.out; rw [if_neg hs] at E2
      rw [E, E2]
      have hs' : u < 2147483648 := by omega
      clear HS E E2 hs
      go_enter Tryd.func14, Tryd.ntmps14
      go_wp2_with (go_at_call 32; refine (HC.out _).mono ?_; rintro e9 w9 ⟨rfl, hw9⟩; subst w9)
      go_ret
      exact ⟨rfl, Below.refl _ _⟩
end Hx
end Go.Proofs.YtbbpnlflihhflaaDoor
