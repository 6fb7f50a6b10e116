import Derived.Test.YtbbpnlflihhflaaDoorHxSl
import Derived.Lib.AppendIntMem
import Derived.Lib.LaidTab
import Derived.Lib.AtoiErrMem
namespace Go.Proofs.YtbbpnlflihhflaaDoor
namespace Hx
open Go.Shelf Go.RowKit
set_option linter.unusedVariables false
/-- What the library's variables hold. -/
structure Tb (w : World) : Prop where
  t32 : Cl.TabAt w
  t64 : T64 w
  pow : Lib.TabIs Tryd.prog w "internal/strconv.uint64pow10" .u64 Lib.pow10Tab
  es : ∃ tp p, w.cell? ⟨2, 0, none⟩ = some (.iface tp p)
  er : ∃ tp p, w.cell? ⟨3, 0, none⟩ = some (.iface tp p)
theorem Tb.on {w w' : World} {B : Nat} (h : Tb w) (hb : Below B w w') (hB : w.heap.size ≤ B) : Tb w' := by
  have h5 := h.t64.1
  have hb0 : Below w.heap.size w w' := ⟨hb.1, hb.2, hb.3, hb.4, fun j hj => hb.block j (by omega)⟩
  refine ⟨fun i hi => ?_, h.t64.on hb hB, Lib.tabBelow_of_tabIs h.pow w' hb0, ?_, ?_⟩
  · rw [hb.cell (p := ⟨0, i, none⟩) (by show 0 < B; omega)]; exact h.t32 i hi
  · obtain ⟨tp, p, h2⟩ := h.es
    exact ⟨tp, p, by rw [hb.cell (p := ⟨2, 0, none⟩) (by show 2 < B; omega)]; exact h2⟩
  · obtain ⟨tp, p, h2⟩ := h.er
    exact ⟨tp, p, by rw [hb.cell (p := ⟨3, 0, none⟩) (by show 3 < B; omega)]; exact h2⟩
theorem itoa_any (n : Int) (h0 : -9223372036854775808 ≤ n) (h1 : n ≤ 9223372036854775807) (w : World) (ht : Tb w) : Calls Tryd.prog 16 #[.int .i64 n] w fun e w' => e = .returned (.string (bs (Lib.itoa n))) ∧ Below w.heap.size w w' := by
  refine (Any.strconv_Itoa laysM171 n h0 h1 w ht.pow).mono ?_
  rintro e w' ⟨rfl, k, os, rfl⟩
  exact ⟨rfl, Lib.below_grow _ w (Nat.le_refl _) k os⟩
def at_ (l : List UInt8) : Int := match Lib.atoiAll l with | .ok v => v | .«syntax» => 0 | .range => Lib.atoiSat l
theorem atoi_any (l : List UInt8) (hl : l.length ≤ 140737488355328) (w : World) (ht : Tb w) : Calls Tryd.prog 27 #[.string (bs l)] w fun e w' => ∃ q, e = .returned (.tuple #[.int .i64 (at_ l), q]) ∧ Below w.heap.size w w' := by
  have hsz := bs_size l
  cases h : Lib.atoiAll l with
  | ok v =>
    refine (Any.strconv_Atoi_ok laysC172 (bs l) (by omega) v (by rw [bs_data]; exact h) w).mono ?_
    rintro e w' ⟨rfl, h2⟩
    refine ⟨_, by rw [at_, h], ?_⟩
    rcases h2 with rfl | ⟨t, rfl⟩
    · exact Below.refl _ _
    · exact bw_below w t
  | «syntax» =>
    obtain ⟨tp, p, hv⟩ := ht.es
    refine (Any.strconv_Atoi_syntax laysC172 (bs l) (by omega) (by rw [bs_data]; exact h) _ w hv (.inr ⟨tp, p, rfl⟩)).mono ?_
    rintro e w' ⟨N, rfl, -, -, hb⟩
    exact ⟨_, by rw [at_, h], hb⟩
  | range =>
    obtain ⟨tp, p, hv⟩ := ht.er
    refine (Any.strconv_Atoi_range laysC172 (bs l) (by omega) (by rw [bs_data]; exact h) _ w hv (.inr ⟨tp, p, rfl⟩)).mono ?_
    rintro e w' ⟨N, rfl, -, -, hb⟩
    rw [bs_data]
    exact ⟨_, by rw [at_, h], hb⟩
/-- ParseUint in base 16: its number. -/
def pn (M : Nat) (l : List UInt8) : Nat := if l = [] then 0 else (pv M 0 l).1
theorem pub (b : Int) (l : List UInt8) (v r : Nat) (hr : r ≤ 2) (hl : l.length ≤ 140737488355328) (w : World) (ht : Tb w)
    (H : Calls Tryd.prog 39 #[.string (bs l), .int .i64 16, .int .i64 b] w fun e w' => e = .returned (.tuple #[.int .u64 v, ev r]) ∧ Below w.heap.size w w') :
    Calls Tryd.prog 24 #[.string (bs l), .int .i64 16, .int .i64 b] w fun e w' => ∃ q, e = .returned (.tuple #[.int .u64 v, q]) ∧ Below w.heap.size w w' := by
  have hsz := bs_size l
  by_cases h0 : r = 0
  · subst h0
    have e0 : ev 0 = .nilIface := rfl
    rw [e0] at H
    clear hr hl hsz
    go_enter Tryd.func24, Tryd.ntmps24
    go_wp2_with (go_at_call 39; refine H.mono ?_; rintro e w9 ⟨rfl, hb⟩)
    go_ret2
    exact ⟨_, rfl, hb⟩
  · rcases (by omega : r = 1 ∨ r = 2) with rfl | rfl
    · have e0 : ev 1 = .iface 84 (.int .i64 1) := rfl
      rw [e0] at H
      go_enter Tryd.func24, Tryd.ntmps24
      go_wp2_with (first | (go_at_call 39; refine H.mono ?_; rintro e w9 ⟨rfl, hb⟩; have ht9 := ht.on hb (Nat.le_refl _); obtain ⟨tp, p, hv⟩ := ht9.er; have H2 := Any.strconv_toError_range laysC245 ⟨#[80, 97, 114, 115, 101, 85, 105, 110, 116]⟩ (bs l) 16 b _ w9 (by omega) hv (.inr ⟨tp, p, rfl⟩)) | (go_at_call 40; refine H2.mono ?_; rintro e w8 ⟨N, rfl, -, -, hb8⟩))
      go_ret2
      exact ⟨_, rfl, hb.trans (hb8.mono hb.size)⟩
    · have e0 : ev 2 = .iface 84 (.int .i64 2) := rfl
      rw [e0] at H
      go_enter Tryd.func24, Tryd.ntmps24
      go_wp2_with (first | (go_at_call 39; refine H.mono ?_; rintro e w9 ⟨rfl, hb⟩; have ht9 := ht.on hb (Nat.le_refl _); obtain ⟨tp, p, hv⟩ := ht9.es; have H2 := Any.strconv_toError_syntax laysC245 ⟨#[80, 97, 114, 115, 101, 85, 105, 110, 116]⟩ (bs l) 16 b _ w9 (by omega) hv (.inr ⟨tp, p, rfl⟩)) | (go_at_call 40; refine H2.mono ?_; rintro e w8 ⟨N, rfl, -, -, hb8⟩))
      go_ret2
      exact ⟨_, rfl, hb.trans (hb8.mono hb.size)⟩
theorem pv_r (M acc : Nat) (l : List UInt8) : (pv M acc l).2 ≤ 2 := by
  induction l generalizing acc with
  | nil => simp [pv]
  | cons c l ih =>
    rw [pv]
    cases hv c with
    | none => simp
    | some d =>
      simp only
      split
      · simp
      · exact ih _
theorem parse64 (l : List UInt8) (hl : l.length ≤ 140737488355328) (w : World) (ht : Tb w) :
    Calls Tryd.prog 24 #[.string (bs l), .int .i64 16, .int .i64 64] w fun e w' => ∃ q, e = .returned (.tuple #[.int .u64 (pn 18446744073709551615 l), q]) ∧ Below w.heap.size w w' := by
  by_cases h0 : l = []
  · subst h0
    refine pub 64 [] 0 2 (by omega) hl w ht ((ip_empty 64 w).mono ?_)
    rintro e w' ⟨rfl, rfl⟩
    exact ⟨rfl, Below.refl _ _⟩
  · rw [pn, if_neg h0]
    exact pub 64 l _ _ (pv_r _ _ _) hl w ht (ip64 l _ _ rfl h0 hl w)
theorem parse23 (l : List UInt8) (hl : l.length ≤ 140737488355328) (w : World) (ht : Tb w) :
    Calls Tryd.prog 24 #[.string (bs l), .int .i64 16, .int .i64 23] w fun e w' => ∃ q, e = .returned (.tuple #[.int .u64 (pn 8388607 l), q]) ∧ Below w.heap.size w w' := by
  by_cases h0 : l = []
  · subst h0
    refine pub 23 [] 0 2 (by omega) hl w ht ((ip_empty 23 w).mono ?_)
    rintro e w' ⟨rfl, rfl⟩
    exact ⟨rfl, Below.refl _ _⟩
  · rw [pn, if_neg h0]
    exact pub 23 l _ _ (pv_r _ _ _) hl w ht (ip23 l _ _ rfl h0 hl w)
end Hx
end Go.Proofs.YtbbpnlflihhflaaDoor
