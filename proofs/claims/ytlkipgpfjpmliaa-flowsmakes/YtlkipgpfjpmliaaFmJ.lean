import Derived.Test.YtlkipgpfjpmliaaFmX2
import Derived.Test.YtlkipgpfjpmliaaFmY01
import Derived.Test.YtlkipgpfjpmliaaFmY02
import Derived.Test.YtlkipgpfjpmliaaFmY0n
import Derived.Test.YtlkipgpfjpmliaaFmYA1
import Derived.Test.YtlkipgpfjpmliaaFmYA2
import Derived.Test.YtlkipgpfjpmliaaFmYAn
import Derived.Test.YtlkipgpfjpmliaaFmYB1
import Derived.Test.YtlkipgpfjpmliaaFmYB2
import Derived.Test.YtlkipgpfjpmliaaFmYBn
import Derived.Test.YtlkipgpfjpmliaaFmZ01
import Derived.Test.YtlkipgpfjpmliaaFmZ02
import Derived.Test.YtlkipgpfjpmliaaFmZ0n
import Derived.Test.YtlkipgpfjpmliaaFmZA1
import Derived.Test.YtlkipgpfjpmliaaFmZA2
import Derived.Test.YtlkipgpfjpmliaaFmZAn
import Derived.Test.YtlkipgpfjpmliaaFmZB1
import Derived.Test.YtlkipgpfjpmliaaFmZB2
import Derived.Test.YtlkipgpfjpmliaaFmZBn
namespace Go.Proofs.Ytlkipgpfjpmliaa
namespace Ft
open Go.RowKit
set_option linter.unusedVariables false
theorem first_bad {n : Int} {L : List Int} : (∀ (i : Nat) (e : Int), L[i]? = some e → e < n) ∨ ∃ (j : Nat) (f : Int), L[j]? = some f ∧ n ≤ f ∧ ∀ (i : Nat) (e : Int), i < j → L[i]? = some e → e < n := by
  induction L with
  | nil => exact .inl fun i e h => by simp at h
  | cons x L ih =>
    by_cases hx : x < n
    · rcases ih with h | ⟨j, f, h1, h2, h3⟩
      · refine .inl fun i e he => ?_
        cases i with
        | zero => simp at he; omega
        | succ i => exact h i e (by simpa using he)
      · refine .inr ⟨j + 1, f, by simpa using h1, h2, fun i e hi he => ?_⟩
        cases i with
        | zero => simp at he; omega
        | succ i => exact h3 i e (by omega) (by simpa using he)
    · exact .inr ⟨0, x, by simp, by omega, fun i e hi => by omega⟩
theorem makes_any (n s k : Int) (a : Option Addr) (c : Nat) (L : List Int) (w : World) (hr : Row w a L) (hn : a = none → c = 0) (h63 : L.length ≤ 35184372088832) : Calls Try.prog 5 #[.int .u32 n, .int .u32 s, .int .i64 k, .slice a L.length c] w fun e w' => e = .returned (.bool true) ∧ Below w.heap.size w w' := by
  cases hz : sz n
  · exact law_FmX2 n s k a c L w hr hn h63 hz
  by_cases hl : L.length < 1 ∨ 64 < L.length
  · by_cases hs : s < n
    · by_cases hk1 : k = 1
      · exact law_FmZA1 n s k a c L w hr hn h63 hz hs hl hk1
      by_cases hk2 : k = 2
      · exact law_FmZA2 n s k a c L w hr hn h63 hz hs hl hk2
      exact law_FmZAn n s k a c L w hr hn h63 hz hs hl hk1 hk2
    · have hs' : n ≤ s := by omega
      by_cases hk1 : k = 1
      · exact law_FmYA1 n s k a c L w hr hn h63 hz hs' hl hk1
      by_cases hk2 : k = 2
      · exact law_FmYA2 n s k a c L w hr hn h63 hz hs' hl hk2
      exact law_FmYAn n s k a c L w hr hn h63 hz hs' hl hk1 hk2
  have hl0 : 0 < L.length := by omega
  have hl1 : L.length ≤ 64 := by omega
  rcases first_bad (n := n) (L := L) with hb | ⟨j, f, hj, hf, hb⟩
  · by_cases hs : s < n
    · by_cases hk1 : k = 1
      · exact law_FmZ01 n s k a c L w hr hn h63 hz hs hl0 hl1 hb hk1
      by_cases hk2 : k = 2
      · exact law_FmZ02 n s k a c L w hr hn h63 hz hs hl0 hl1 hb hk2
      exact law_FmZ0n n s k a c L w hr hn h63 hz hs hl0 hl1 hb hk1 hk2
    · have hs' : n ≤ s := by omega
      by_cases hk1 : k = 1
      · exact law_FmY01 n s k a c L w hr hn h63 hz hs' hl0 hl1 hb hk1
      by_cases hk2 : k = 2
      · exact law_FmY02 n s k a c L w hr hn h63 hz hs' hl0 hl1 hb hk2
      exact law_FmY0n n s k a c L w hr hn h63 hz hs' hl0 hl1 hb hk1 hk2
  · by_cases hs : s < n
    · by_cases hk1 : k = 1
      · exact law_FmZB1 n s k a c L w hr hn h63 hz hs hl0 hl1 j f hj hf hb hk1
      by_cases hk2 : k = 2
      · exact law_FmZB2 n s k a c L w hr hn h63 hz hs hl0 hl1 j f hj hf hb hk2
      exact law_FmZBn n s k a c L w hr hn h63 hz hs hl0 hl1 j f hj hf hb hk1 hk2
    · have hs' : n ≤ s := by omega
      by_cases hk1 : k = 1
      · exact law_FmYB1 n s k a c L w hr hn h63 hz hs' hl0 hl1 j f hj hf hb hk1
      by_cases hk2 : k = 2
      · exact law_FmYB2 n s k a c L w hr hn h63 hz hs' hl0 hl1 j f hj hf hb hk2
      exact law_FmYBn n s k a c L w hr hn h63 hz hs' hl0 hl1 j f hj hf hb hk1 hk2
end Ft
end Go.Proofs.Ytlkipgpfjpmliaa
