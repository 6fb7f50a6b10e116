import Derived.Test.YtgoigcpdfecfhaaGreatDoorCrD
import Derived.Test.YtgoigcpdfecfhaaGreatDoorAuU
namespace Go.Proofs.YtgoigcpdfecfhaaGreatDoor
namespace Au
open Go.RowKit
set_option linter.unusedVariables false
set_option maxRecDepth 8000
/-- May there be a program of so many rounds? -/
def rz (n : Nat) (R : Int) : Int := if sz n = 0 ∧ 1 ≤ R then 0 else 2
theorem rz_zero {n : Nat} {R : Int} (h : rz n R = 0) : 0 < n ∧ 1 ≤ R := by
  unfold rz at h
  split at h
  · rename_i h1
    exact ⟨sz_pos h1.1, h1.2⟩
  · cases h
theorem judge46 (n rl rb xb eb kb sb sg sn sc Bt Bf g : Nat) (L : List T3) (f s R : Int) (S : Nat → Nat → Int) (U0 : Nat → Int) (hR : R ≤ 1000) (hf0 : 0 ≤ f) (s0 : 0 ≤ s) (s1 : s < 18446744073709551616) (hn : n < 4294967296) (hsn : sn ≤ 140737488351232) (hr : rl ≤ 5000) (hlen : L.length ≤ 140737488351232) (w : World)
    (hG : GU w rb rl U0) (hU0 : ∀ x, 2 * n ≤ x → x < rl → U0 x = 99) (hF : Fd w g Bt Bf L f) (hsb : Boxed w sb 23 (.slice (some ⟨sg, 0, none⟩) sn sc)) (hxb : Boxed w xb 22 (.int .u32 (n : Int))) (heb : Boxed w eb 28 (.int .u64 s)) (hkb : Boxed w kb 3 (.int .i64 R)) (hS : SR w sg sn S) (hT : Tb w)
    (r1 : rb ≠ g) (r2 : rb ≠ Bt) (r3 : rb ≠ Bf) (r4 : rb ≠ sb) (r5 : rb ≠ sg) (r7 : rb ≠ eb) (r8 : 2 ≤ rb) (r9 : rb ≠ xb) (r10 : rb ≠ kb) :
    Calls Tryz.prog 31 #[.agg #[.int .u32 (n : Int), .int .i64 0, fe Bt Bf, .slice (some ⟨sg, 0, none⟩) sn sc, .bool false, .int .u32 0, .int .i64 0], .int .i64 (rz n R), .slice (some ⟨rb, 0, none⟩) rl rl, .int .i64 2, .func (.func 46) #[] #[.pointer (some ⟨xb, 0, none⟩), .pointer (some ⟨eb, 0, none⟩), .pointer (some ⟨kb, 0, none⟩), .pointer (some ⟨sb, 0, none⟩)]] w fun e w' =>
      ∃ E o, e = .returned (.tuple #[.agg (vx E o), .int .i64 E]) ∧ E = dk (rz n R) n sn rl 2 0 L f ∧ (E = 0 → AR n L s R.toNat S o) ∧ Sp w' rb (2 * n) rl ∧ Ch (fun k => k = rb) w w' := by
  have hGl := hG.lt
  have hFl := hF.lt
  have hsl := hsb.lt
  have hel := heb.lt
  have hxl := hxb.lt
  have hkl := hkb.lt
  have hSl := hS.lt
  have hTl := hT.lt
  by_cases hm : ak (rz n R) n sn rl 2 = 0
  · obtain ⟨h1, h2, h3⟩ := ak_zero hm
    obtain ⟨hn0, hR1⟩ := rz_zero h1
    have hB : Below w.heap.size w ((w.alloc (.cells (qc n 0 (fe Bt Bf) (.slice (some ⟨sg, 0, none⟩) sn sc) none) 69)).alloc (.cells z3 35)) := bA (b1 _ _ _) (by simp) _
    have hq : Iq ((w.alloc (.cells (qc n 0 (fe Bt Bf) (.slice (some ⟨sg, 0, none⟩) sn sc) none) 69)).alloc (.cells z3 35)) w.heap.size n 0 (fe Bt Bf) (.slice (some ⟨sg, 0, none⟩) sn sc) none := keep _ (at0 _ _)
    have hkb' : Boxed w kb 3 (.int .i64 (R.toNat : Int)) := by rw [show (R.toNat : Int) = R by omega]; exact hkb
    have hl := look46 n rl rb xb eb kb sb sg sn sc w.heap.size Bt Bf g R.toNat L f s S U0 (by omega) h3 hn0 (by omega) (by omega) (by omega) s0 s1 hf0 hlen _ hq (hG.on hB) hU0 (hF.on (X := fun _ => False) (Ch.of hB) (fun h => h) (fun h => h) (fun h => h)) ((hB.block sb hsl).trans hsb) ((hB.block xb hxl).trans hxb) ((hB.block eb hel).trans heb) ((hB.block kb hkl).trans hkb') (hS.on (X := fun _ => False) (Ch.of hB) (fun h => h)) (hT.b hB) r1 r2 r3 r4 r5 (by omega) r7 r8 r9 r10 (by omega) (by omega)
    have hj := judge_ok n 2 rl sn sc 46 rb Bt Bf (rz n R) 0 (some ⟨sg, 0, none⟩) #[.pointer (some ⟨xb, 0, none⟩), .pointer (some ⟨eb, 0, none⟩), .pointer (some ⟨kb, 0, none⟩), .pointer (some ⟨sb, 0, none⟩)] (fun k => k = rb ∨ k = w.heap.size) (RR n rl rb L f s R.toNat S) (by omega) hn hsn hr hm w entersR46 (by omega)
      (fun E o W W' h hk => ⟨h.1, h.2.1, h.2.2.of (hk rb hGl)⟩) hl
    refine hj.mono ?_
    rintro e w' ⟨E, o, rfl, ⟨a, b, hP⟩, hC⟩
    refine ⟨E, o, rfl, by rw [dk_eq hm]; exact a, b, hP, hC.mono (fun k hk h => by rcases h with h | h; exact h; omega)⟩
  · refine (judge_bad n 2 rl sn sc 46 rb Bt Bf (rz n R) 0 (some ⟨sg, 0, none⟩) #[.pointer (some ⟨xb, 0, none⟩), .pointer (some ⟨eb, 0, none⟩), .pointer (some ⟨kb, 0, none⟩), .pointer (some ⟨sb, 0, none⟩)] (by omega) hn hsn hr hm w).mono ?_
    rintro e w' ⟨rfl, hB⟩
    refine ⟨_, none, by unfold vx; rw [if_neg hm], (dk_ne hm).symm, fun h => absurd h hm, ⟨U0, hG.on hB, hU0⟩, Ch.of hB⟩
theorem ispace_any (R : Int) (h : R ≤ 1000) (w : World) : Calls Tryz.prog 101 #[.int .i64 R] w fun e w' => e = .returned (.bool (decide (1 ≤ R))) ∧ w' = w := by
  by_cases c1 : 1 ≤ R
  · have c2 : R ≤ 65536 := by omega
    have HD : Hid (decide (1 ≤ R) = true) := decide_eq_true c1
    go_enter Tryz.func101, Tryz.ntmps101
    go_wp2
    all_goals go_ret
    all_goals exact ⟨ret_bool (by rw [HD.out]), rfl⟩
  · have HD : Hid (decide (1 ≤ R) = false) := decide_eq_false c1
    go_enter Tryz.func101, Tryz.ntmps101
    go_wp2
    all_goals go_ret
    all_goals exact ⟨ret_bool (by rw [HD.out]), rfl⟩
theorem hanf_any (n : Nat) (R s : Int) (hR : R ≤ 1000) (w : World) : Calls Tryz.prog 45 #[.int .u32 (n : Int), .int .i64 R, .int .u64 s] w fun e w' => (∃ p, e = .returned (.tuple #[p, .int .i64 (rz n R)])) ∧ Below w.heap.size w w' := by
  have HZ := hide (issize_any n w)
  have HI := hide (ispace_any R hR w)
  obtain ⟨a, ha⟩ : ∃ a, (sz n == 0) = a := ⟨_, rfl⟩
  obtain ⟨b, hb⟩ : ∃ b, decide (1 ≤ R) = b := ⟨_, rfl⟩
  have HV : Hid (rz n R = if a && b then 0 else 2) := by
    show _ = _
    unfold rz
    rw [← ha, ← hb]
    by_cases c1 : sz n = 0
    · by_cases c2 : 1 ≤ R
      · rw [if_pos ⟨c1, c2⟩]; simp [c1, c2]
      · rw [if_neg (fun h => c2 h.2)]; simp [c2]
    · rw [if_neg (fun h => c1 h.1)]; simp [c1]
  rw [ha] at HZ
  rw [hb] at HI
  generalize rz n R = z at *
  clear ha hb
  cases a with
  | false =>
    obtain rfl : z = 2 := HV.out
    clear HV
    go_enter Tryz.func45, Tryz.ntmps45
    go_wp2_with (fail)
    refine HZ.out.mono ?_
    rintro e9 w9 ⟨rfl, hw9⟩
    subst w9
    clear HZ HI
    go_wp2
    all_goals go_ret2
    all_goals exact ⟨⟨_, rfl⟩, Below.refl _ _⟩
  | true =>
    cases b with
    | false =>
      obtain rfl : z = 2 := HV.out
      clear HV
      go_enter Tryz.func45, Tryz.ntmps45
      go_wp2_with (fail)
      refine HZ.out.mono ?_
      rintro e9 w9 ⟨rfl, hw9⟩
      subst w9
      go_wp2_with (fail)
      refine HI.out.mono ?_
      rintro e9 w9 ⟨rfl, hw9⟩
      subst w9
      clear HZ HI
      go_wp2
      all_goals go_ret2
      all_goals exact ⟨⟨_, rfl⟩, Below.refl _ _⟩
    | true =>
      obtain rfl : z = 0 := HV.out
      clear HV
      go_enter Tryz.func45, Tryz.ntmps45
      go_wp2_with (fail)
      refine HZ.out.mono ?_
      rintro e9 w9 ⟨rfl, hw9⟩
      subst w9
      go_wp2_with (fail)
      refine HI.out.mono ?_
      rintro e9 w9 ⟨rfl, hw9⟩
      subst w9
      clear HZ HI
      go_wp2
      all_goals go_ret2
      all_goals exact ⟨⟨_, rfl⟩, bA2 (b1 _ _ _) _⟩
end Au
end Go.Proofs.YtgoigcpdfecfhaaGreatDoor
