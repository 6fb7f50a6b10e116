import Derived.Test.YtamlmjpkifnhaaaRows
import Derived.WalkKit
import Derived.BigQuiet
import Derived.Deep.QuietTactic
import Derived.WalkSmall
import Derived.Handy
import Derived.Below
namespace Go.Proofs.Ytamlmjpkifnhaaa
namespace Wb
open Go.RowKit
set_option linter.unusedVariables false
set_option maxRecDepth 8000
theorem ret_bool {a b : Bool} (h : a = b) : Ending.returned (.bool a) = .returned (.bool b) := by rw [h]
theorem b1 (w : World) (t : TypeId) (v : Array Value) : Below w.heap.size w (w.alloc (.cells v t)) := (Below.refl _ w).alloc (Nat.le_refl _) _
theorem belowN {B : Nat} {w w' : World} (h : Below B w w') (n : Nat) : Below B w (w'.drewN n) := ⟨h.os, h.tape, h.output, h.size, h.block⟩
/-- A byte that may stand in a name. -/
def good (c : Int) : Prop := (97 ≤ c ∧ c ≤ 122) ∨ (48 ≤ c ∧ c ≤ 57) ∨ c = 95
/-- A name. -/
def Nm (s : ByteArray) : Prop := 1 ≤ s.size ∧ s.size ≤ 16 ∧ ∀ i (h : i < s.size), good (s[i].toNat : Int)
open Classical in
noncomputable def nm (s : ByteArray) : Bool := decide (Nm s)
theorem nm_yes {s : ByteArray} (h : Nm s) : nm s = true := by unfold nm; simpa using h
theorem nm_no {s : ByteArray} (h : ¬ Nm s) : nm s = false := by unfold nm; simpa using h
theorem size0 (s : ByteArray) (h : s.size = 0) : s = ⟨#[]⟩ := by
  cases s with
  | mk d => have : d.size = 0 := h; simp at this; rw [this]
theorem emp (s : ByteArray) : s.toList.isEmpty = decide (s.size = 0) := by
  rw [← decide_eq_emptyBytes]
  by_cases h : s.size = 0
  · rw [decide_eq_true h]; exact decide_eq_true (size0 s h)
  · rw [decide_eq_false h]; exact decide_eq_false (fun e => h (by rw [e]; rfl))
set_option maxHeartbeats 2000000 in
theorem isName_any (s : ByteArray) (hs : s.size ≤ 9223372036854775807) (w : World) : Calls Try.prog 18 #[.string s] w fun e w' => e = .returned (.bool (nm s)) ∧ w' = w := by
  have hb0 := emp s
  go_enter Try.func18, Try.ntmps18
  go_wp2
  go_loop [7, 3, 4] (fun i _ _ => ∃ k : Nat, k ≤ s.size ∧ i = .int .i64 k ∧ Hid (∀ j (h : j < s.size), j < k → good (s[j].toNat : Int))) (fun i _ _ => s.size - (intOf i).toNat)
  case atStart => exact ⟨0, by omega, rfl, fun j h h' => by omega⟩
  case round =>
    obtain ⟨k, hk, rfl, hg⟩ := hrel
    by_cases h : k < s.size
    · by_cases hgk : good (s[k].toNat : Int)
      · have hg' : Hid (∀ j (h : j < s.size), j < k + 1 → good (s[j].toNat : Int)) := fun j h h' => by
          by_cases e : j < k
          · exact hg.out j h e
          · obtain rfl : j = k := by omega
            exact hgk
        rcases hgk with ⟨a1, a2⟩ | ⟨a1, a2⟩ | e
        all_goals go_wp2
        all_goals refine ⟨⟨k + 1, by omega, by simp, hg'⟩, ?_⟩
        all_goals simp [intOf]
        all_goals omega
      · have hno : nm s = false := nm_no fun hN => hgk (hN.2.2 k h)
        have hgk' : ¬ (97 ≤ (s[k].toNat : Int) ∧ (s[k].toNat : Int) ≤ 122) ∧ ¬ (48 ≤ (s[k].toNat : Int) ∧ (s[k].toNat : Int) ≤ 57) ∧ (s[k].toNat : Int) ≠ 95 := by unfold good at hgk; omega
        have HN : Hid (nm s = false) := hno
        clear hgk hno hg
        have hc : (s[k].toNat : Int) < 48 ∨ (57 < (s[k].toNat : Int) ∧ (s[k].toNat : Int) < 97) ∨ 122 < (s[k].toNat : Int) := by omega
        obtain ⟨_, _, hne⟩ := hgk'
        have hne' : ((s[k].toNat : Int) == 95) = false := by simpa using hne
        have hne2 : ((s[k].toNat : Int) != 95) = true := by simpa using hne
        rcases hc with c1 | ⟨c1, c2⟩ | c1
        all_goals go_wp2
        all_goals first | (exfalso; clear HN hb0; simp_all; done) | (exfalso; clear HN hb0; simp_all; omega) | (go_ret; exact ⟨ret_bool HN.out.symm, rfl⟩)
    · obtain rfl : k = s.size := by omega
      have HG : Hid (nm s = (decide (1 ≤ s.size) && decide (s.size ≤ 16))) := by
        unfold nm
        by_cases h1 : 1 ≤ s.size
        · by_cases h2 : s.size ≤ 16
          · have : Nm s := ⟨h1, h2, fun i hi => hg.out i hi hi⟩
            simp [h1, h2, this, Hid]
          · have : ¬ Nm s := fun x => h2 x.2.1
            simp [h1, h2, this, Hid]
        · have : ¬ Nm s := fun x => h1 x.1
          simp [h1, this, Hid]
      clear hg
      by_cases h1 : s.size = 0
      · rw [decide_eq_true h1] at hb0
        go_wp2
        go_ret
        refine ⟨ret_bool ?_, rfl⟩
        rw [HG.out]; simp [h1]
      · rw [decide_eq_false h1] at hb0
        go_wp2
        go_ret
        refine ⟨ret_bool ?_, rfl⟩
        rw [HG.out]
        have h3 : 1 ≤ s.size := by omega
        have h4 : decide ((s.size : Int) ≤ 16) = decide (s.size ≤ 16) := by by_cases h : s.size ≤ 16 <;> simp [h] <;> omega
        simp [h3, h4]
end Wb
end Go.Proofs.Ytamlmjpkifnhaaa
