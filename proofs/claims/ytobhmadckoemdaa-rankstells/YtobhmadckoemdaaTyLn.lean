import Derived.Test.YtobhmadckoemdaaRows
import Derived.Test.YtobhmadckoemdaaTyLm
import Derived.WalkKit
import Derived.BigQuiet
import Derived.Deep.QuietTactic
namespace Go.Proofs.Ytobhmadckoemdaa
namespace Rd
open Go.ChangeShapes Go.WideShapes Go.RowKit
theorem ret_int {k : IntKind} {a b : Int} (h : a = b) : Ending.returned (.int k a) = .returned (.int k b) := by rw [h]
theorem wrap64_of (n : Int) (h : 0 ≤ n) (h2 : n < 9223372036854775808) : wrap64 n = n := IntWalk.wrap64_in n ⟨by omega, by omega⟩
theorem fin0 (y v : Int) (hv : v = len y) (h0 : 0 ≤ len y) (h1 : len y ≤ 64) : wrap64 (wrap64 v) = len y := by
  subst hv; rw [wrap64_of (len y), wrap64_of] <;> omega
theorem finc (c y v : Int) (hv : v = len y) (h0 : 0 ≤ len y) (h1 : len y ≤ 64) (c0 : 0 ≤ c) (c1 : c ≤ 64) : wrap64 (c + wrap64 v) = c + len y := by
  subst hv; rw [wrap64_of (len y), wrap64_of] <;> omega
set_option maxRecDepth 100000 in
set_option maxHeartbeats 400000 in
theorem len_any (x : Int) (h0 : 0 ≤ x) (h1 : x < 18446744073709551616) (w : World) :
    Calls Try.prog 47 #[.int .u64 x] w fun e w' => e = .returned (.int .i64 (len x)) ∧ w' = w := by
  by_cases a32 : 4294967296 ≤ x
  · have H32 : Hid (len (x / 4294967296) + 32 = len x) := len_32 x a32
    have b0 : 0 ≤ x / 4294967296 := by omega
    have b1 : x / 4294967296 < 4294967296 := by omega
    by_cases a16 : 65536 ≤ x / 4294967296
    · have H16 : Hid (len (x / 4294967296 / 65536) + 16 = len (x / 4294967296)) := len_16 _ a16
      have c0 : 0 ≤ x / 4294967296 / 65536 := by omega
      have c1 : x / 4294967296 / 65536 < 65536 := by omega
      by_cases a8 : 256 ≤ x / 4294967296 / 65536
      · have H8 : Hid (len (x / 4294967296 / 65536 / 256) + 8 = len (x / 4294967296 / 65536)) := len_8 _ a8
        have lb := len_b (x / 4294967296 / 65536 / 256) (by omega) (by omega)
        go_enter Try.func47, Try.ntmps47
        go_wp2
        go_ret
        refine ⟨ret_int ?_, rfl⟩
        refine (finc 56 (x / 4294967296 / 65536 / 256) _ (tab_get _ (by omega) (by omega) _) lb.1 lb.2 (by omega) (by omega)).trans ?_
        have := H8.out; have := H16.out; have := H32.out; omega
      · have lb := len_b (x / 4294967296 / 65536) (by omega) (by omega)
        go_enter Try.func47, Try.ntmps47
        go_wp2
        go_ret
        refine ⟨ret_int ?_, rfl⟩
        refine (finc 48 (x / 4294967296 / 65536) _ (tab_get _ (by omega) (by omega) _) lb.1 lb.2 (by omega) (by omega)).trans ?_
        have := H16.out; have := H32.out; omega
    · have a16' : x / 4294967296 < 65536 := by omega
      by_cases a8 : 256 ≤ x / 4294967296
      · have H8 : Hid (len (x / 4294967296 / 256) + 8 = len (x / 4294967296)) := len_8 _ a8
        have lb := len_b (x / 4294967296 / 256) (by omega) (by omega)
        go_enter Try.func47, Try.ntmps47
        go_wp2
        go_ret
        refine ⟨ret_int ?_, rfl⟩
        refine (finc 40 (x / 4294967296 / 256) _ (tab_get _ (by omega) (by omega) _) lb.1 lb.2 (by omega) (by omega)).trans ?_
        have := H8.out; have := H32.out; omega
      · have lb := len_b (x / 4294967296) (by omega) (by omega)
        go_enter Try.func47, Try.ntmps47
        go_wp2
        go_ret
        refine ⟨ret_int ?_, rfl⟩
        refine (finc 32 (x / 4294967296) _ (tab_get _ (by omega) (by omega) _) lb.1 lb.2 (by omega) (by omega)).trans ?_
        have := H32.out; omega
  · have a32' : x < 4294967296 := by omega
    by_cases a16 : 65536 ≤ x
    · have H16 : Hid (len (x / 65536) + 16 = len x) := len_16 _ a16
      have c0 : 0 ≤ x / 65536 := by omega
      have c1 : x / 65536 < 65536 := by omega
      by_cases a8 : 256 ≤ x / 65536
      · have H8 : Hid (len (x / 65536 / 256) + 8 = len (x / 65536)) := len_8 _ a8
        have lb := len_b (x / 65536 / 256) (by omega) (by omega)
        go_enter Try.func47, Try.ntmps47
        go_wp2
        go_ret
        refine ⟨ret_int ?_, rfl⟩
        refine (finc 24 (x / 65536 / 256) _ (tab_get _ (by omega) (by omega) _) lb.1 lb.2 (by omega) (by omega)).trans ?_
        have := H8.out; have := H16.out; omega
      · have lb := len_b (x / 65536) (by omega) (by omega)
        go_enter Try.func47, Try.ntmps47
        go_wp2
        go_ret
        refine ⟨ret_int ?_, rfl⟩
        refine (finc 16 (x / 65536) _ (tab_get _ (by omega) (by omega) _) lb.1 lb.2 (by omega) (by omega)).trans ?_
        have := H16.out; omega
    · have a16' : x < 65536 := by omega
      by_cases a8 : 256 ≤ x
      · have H8 : Hid (len (x / 256) + 8 = len x) := len_8 x a8
        have lb := len_b (x / 256) (by omega) (by omega)
        go_enter Try.func47, Try.ntmps47
        go_wp2
        go_ret
        refine ⟨ret_int ?_, rfl⟩
        refine (finc 8 (x / 256) _ (tab_get _ (by omega) (by omega) _) lb.1 lb.2 (by omega) (by omega)).trans ?_
        have := H8.out; omega
      · have lb := len_b x h0 h1
        go_enter Try.func47, Try.ntmps47
        go_wp2
        go_ret
        refine ⟨ret_int ?_, rfl⟩
        exact fin0 x _ (tab_get x h0 (by omega) _) lb.1 lb.2


end Rd
end Go.Proofs.Ytobhmadckoemdaa
