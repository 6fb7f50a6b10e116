import Derived.Test.YtfgjhljhjclegaaRtB
import Derived.Laws.EntriesVeiled
namespace Go.Proofs.Ytfgjhljhjclegaa
namespace Rt
open Go.RowKit
set_option linter.unusedVariables false
set_option maxRecDepth 8000
theorem nf_in {P : Program} (w : World) (d : Nat) (t : TypeId) (f : Fn) (a c : Array Value) (u : TypeDesc) (h : P.underlying t = some u) (hu : ∃ x y z, u = .func x y z) : (Op.equalIn (d + 1) t (.func f a c) .nilFunc).run P w = .ok false w := by
  obtain ⟨x, y, z, rfl⟩ := hu
  simp [Op.equalIn, run_underlying h]
theorem nf_ne {P : Program} (w : World) (t : TypeId) (f : Fn) (a c : Array Value) (u : TypeDesc) (h : P.underlying t = some u) (hu : ∃ x y z, u = .func x y z) : (binOp .neq t (.func f a c) .nilFunc).run P w = .ok (.bool true) w := by
  have e : (Op.equal t (.func f a c) .nilFunc).run P w = .ok false w := nf_in w 9999 t f a c u h hu
  simp only [binOp]
  simp [e]
/-- The form of texts. -/
abbrev fT (x : Int) : Value := .agg #[.int .i64 x, .func (.func 38) #[] #[], .func (.func 39) #[] #[]]
theorem textForm_any (x : Int) (w : World) : Calls Try.prog 6 #[.int .i64 x] w fun e w' => e = .returned (fT x) ∧ Below w.heap.size w w' := by
  go_enter Try.func6, Try.ntmps6
  go_wp2
  exact bodyPost_ret (v := fT x) (by simp [results, Try.results6, go_sem]) rfl ⟨rfl, by first | exact (Below.refl _ _).alloc (Nat.le_refl _) _ | exact ((((Below.refl _ _).alloc (Nat.le_refl _) _).setCell (Nat.le_refl _) _).setCell (Nat.le_refl _) _).setCell (Nat.le_refl _) _⟩
theorem width_any (x : Int) (w : World) : Calls Try.prog 10 #[fT x] w fun e w' => e = .returned (.int .i64 x) ∧ Below w.heap.size w w' := by
  go_enter Try.func10, Try.ntmps10
  go_wp2
  go_ret
  exact ⟨rfl, (Below.refl _ _).alloc (Nat.le_refl _) _⟩
/-- Is a width one of a record? -/
def wOk (x : Int) : Bool := decide (1 ≤ x ∧ x ≤ 256)
theorem right_any (x : Int) (w : World) (h0 : -9223372036854775808 ≤ x) (h1 : x ≤ 9223372036854775807) : Calls Try.prog 76 #[fT x] w fun e w' => e = .returned (.bool (wOk x)) ∧ Below w.heap.size w w' := by
  by_cases h : 1 ≤ x
  · by_cases h2 : x ≤ 256
    · have H : Hid (wOk x = true) := by show _ = _; unfold wOk; simp; omega
      have n1 := fun w f a c => nf_ne (P := Try.prog) w 22 f a c _ Try.underlying22 ⟨_, _, _, rfl⟩
      have n2 := fun w f a c => nf_ne (P := Try.prog) w 23 f a c _ Try.underlying23 ⟨_, _, _, rfl⟩
      go_enter Try.func76, Try.ntmps76
      go_wp2
      go_ret
      exact ⟨by rw [H.out]; rfl, (Below.refl _ _).alloc (Nat.le_refl _) _⟩
    · have H : Hid (wOk x = false) := by show _ = _; unfold wOk; simp; omega
      go_enter Try.func76, Try.ntmps76
      go_wp2
      go_ret
      exact ⟨by rw [H.out]; rfl, (Below.refl _ _).alloc (Nat.le_refl _) _⟩
  · have H : Hid (wOk x = false) := by show _ = _; unfold wOk; simp; omega
    go_enter Try.func76, Try.ntmps76
    go_wp2
    go_ret
    exact ⟨by rw [H.out]; rfl, (Below.refl _ _).alloc (Nat.le_refl _) _⟩
/-- What fits answers. -/
def fe (x : Int) (n : Nat) : Int := if 1 ≤ x ∧ x ≤ 256 then (if (n : Int) < x then 67 else 0) else 2
theorem fits_any (x : Int) (a : Option Addr) (n c : Nat) (w : World) (hn : n ≤ 140737488351232) (h0 : -9223372036854775808 ≤ x) (h1 : x ≤ 9223372036854775807) :
    Calls Try.prog 41 #[fT x, .slice a n c] w fun e w' => e = .returned (.int .i64 (fe x n)) ∧ Below w.heap.size w w' := by
  have HR : Hid (∀ w, Calls Try.prog 76 #[fT x] w fun e w' => e = .returned (.bool (wOk x)) ∧ Below w.heap.size w w') := fun w => right_any x w h0 h1
  by_cases h : 1 ≤ x ∧ x ≤ 256
  · have hk : wOk x = true := by unfold wOk; simp; omega
    rw [hk] at HR
    by_cases h2 : (n : Int) < x
    · have H : Hid (fe x n = 67) := by show _ = _; unfold fe; rw [if_pos h, if_pos h2]
      clear hk
      go_enter Try.func41, Try.ntmps41
      go_wp2_with (go_at_call 76; refine (HR.out _).mono ?_; rintro e w9 ⟨rfl, hb⟩; have hc := hb.cell (p := ⟨w.heap.size, 0, none⟩) (by simp))
      go_ret
      exact ⟨by rw [H.out]; rfl, ((Below.refl _ _).alloc (Nat.le_refl _) _).trans (hb.mono (by simp))⟩
    · have H : Hid (fe x n = 0) := by show _ = _; unfold fe; rw [if_pos h, if_neg h2]
      clear hk
      go_enter Try.func41, Try.ntmps41
      go_wp2_with (go_at_call 76; refine (HR.out _).mono ?_; rintro e w9 ⟨rfl, hb⟩; have hc := hb.cell (p := ⟨w.heap.size, 0, none⟩) (by simp))
      go_ret
      exact ⟨by rw [H.out]; rfl, ((Below.refl _ _).alloc (Nat.le_refl _) _).trans (hb.mono (by simp))⟩
  · have hk : wOk x = false := by unfold wOk; simp; omega
    rw [hk] at HR
    have H : Hid (fe x n = 2) := by show _ = _; unfold fe; rw [if_neg h]
    clear hk h
    go_enter Try.func41, Try.ntmps41
    go_wp2_with (go_at_call 76; refine (HR.out _).mono ?_; rintro e w9 ⟨rfl, hb⟩)
    go_ret
    exact ⟨by rw [H.out]; rfl, ((Below.refl _ _).alloc (Nat.le_refl _) _).trans (hb.mono (by simp))⟩
/-- A text laid into a row. -/
theorem putText_any (g k c : Nat) (L : List Int) (t : ByteArray) (w : World) (hw : Rw w g L) (hk : k ≤ L.length) (hc : k ≤ c) (hcm : c ≤ 1048576) (ht : t.size ≤ 9223372036854775807) :
    Calls Try.prog 38 #[.slice (some ⟨g, 0, none⟩) k c, .string t] w fun e w' => e = .returned (.tuple #[]) ∧ Rw w' g (over L 0 (txt t k)) ∧ But g w w' := by
  obtain ⟨w1, hw1⟩ : ∃ w1, w1 = w.setRow g (vals (over L 0 ((tb t).take k))).toArray := ⟨_, rfl⟩
  have H1 : ∀ ty, (Builtin.copy_ #[96, 9] ty #[.slice (some ⟨g, 0, none⟩) k c, .string t]).run Try.prog w = .ok (goInt ((min t.size k : Nat) : Int)) w1 := fun ty => by
    rw [hw1]; exact run_copy_text w _ _ _ g k c L t Try.underlying96 hw hk
  have hr1 : Rw w1 g (over L 0 ((tb t).take k)) := by rw [hw1]; exact hw.put _
  have hb1 : But g w w1 := by rw [hw1]; exact But.setRow w _
  have hol : (over L 0 ((tb t).take k)).length = L.length := over_len _ _ _ (by simp; omega)
  obtain ⟨m, hm⟩ : ∃ m, m = min t.size k := ⟨_, rfl⟩
  have hmk : m ≤ k := by omega
  have e9 := over_txt L t k hk
  rw [← hm] at H1 e9
  have hov : over (over L 0 ((tb t).take k)) m [] = over L 0 ((tb t).take k) := by unfold over; simp
  by_cases hmk' : m = k
  · subst hmk'
    rw [Nat.sub_self, List.replicate_zero, hov] at e9
    rw [e9] at hr1
    have H2 : ∀ ty x cc, (Builtin.clear_ #[96] ty #[.slice x 0 cc]).run Try.prog w1 = .ok (.tuple #[]) w1 := fun ty x cc => by
      cases x <;> simp [Builtin.clear_, run_underlying Try.underlying96]
    clear hw1 e9 hol hm hov hw
    by_cases hmc : m = c
    · subst hmc
      go_enter Try.func38, Try.ntmps38
      go_wp2
      go_returns
      exact ⟨rfl, hr1, hb1⟩
    · go_enter Try.func38, Try.ntmps38
      go_wp2
      go_returns
      exact ⟨rfl, hr1, hb1⟩
  · have hmc : ¬ m = c := by omega
    obtain ⟨w2, hw2⟩ : ∃ w2, w2 = w1.setRow g (vals (over (over L 0 ((tb t).take k)) m (List.replicate (k - m) 0))).toArray := ⟨_, rfl⟩
    have H2 : ∀ ty, (Builtin.clear_ #[96] ty #[.slice (some ⟨g, m, none⟩) (k - m) (c - m)]).run Try.prog w1 = .ok (.tuple #[]) w2 := fun ty => by
      rw [hw2]; exact run_clear_row w1 _ ty g m (k - m) (c - m) _ Try.underlying96 hr1 (by omega)
    have hr2 : Rw w2 g (over L 0 (txt t k)) := by rw [hw2, e9]; exact hr1.put _
    have hb2 : But g w w2 := hb1.trans (by rw [hw2]; exact But.setRow w1 _)
    clear hw1 hw2 e9 hol hr1 hb1 hm hov hw hmk'
    go_enter Try.func38, Try.ntmps38
    go_wp2
    go_returns
    exact ⟨rfl, hr2, hb2⟩
theorem text_any (g k c : Nat) (L : List Int) (w : World) (hw : Rw w g L) (hk : k ≤ L.length) :
    Calls Try.prog 39 #[.slice (some ⟨g, 0, none⟩) k c] w fun e w' => e = .returned (.string (bstr (L.take k))) ∧ w' = w := by
  have H := run_text w 96 9 g k c L Try.underlying96 Try.underlying9 hw hk
  clear hw
  go_enter Try.func39, Try.ntmps39
  go_wp2
  go_ret
  exact ⟨rfl, rfl⟩
end Rt
end Go.Proofs.Ytfgjhljhjclegaa
