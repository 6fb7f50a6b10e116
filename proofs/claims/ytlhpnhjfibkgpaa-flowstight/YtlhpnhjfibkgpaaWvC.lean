import Derived.Test.YtlhpnhjfibkgpaaWvB
namespace Go.Proofs.Ytlhpnhjfibkgpaa
namespace Wp
open Go.RowKit
set_option linter.unusedVariables false
set_option maxRecDepth 8000
def wyAp (n : Int) (c s : Nat → Int) : (Nat → Int) × Bool := if n ≤ c 0 then (up s 1 1, true) else if wrap64 (s 3) < wrap64 (s 0) then (up (up s 0 (s 3)) 2 (c 0 + 1), true) else (s, false)
def wyFo (g s : Nat → Int) : Nat → Int := if s 1 = 1 then up (if s 0 = 9223372036854775807 then g else up g 0 (g 0 + 1)) 1 1 else if s 0 = 9223372036854775807 then g else up g 0 (g 0 + 1)
set_option maxHeartbeats 2000000 in
theorem fold_wy (wb : Nat) (c g : Nat → Int) (v : Int) (s : Nat → Int) (g0 : 0 ≤ g 0) (g1 : g 0 ≤ 1000000) (w : World) : Calls Try.prog 93 #[.pointer (some ⟨wb, 0, none⟩), .agg (cv c), .agg (sv g), .int .u32 v, .agg (sv s)] w fun e w' => e = .returned (.tuple #[.agg (sv (wyFo g s)), .int .i64 0]) ∧ Below w.heap.size w w' := by
  have hg : IntKind.u64.wrap (g 0 + 1) = g 0 + 1 := wu _ (by omega) (by omega)
  by_cases h : s 0 = 9223372036854775807
  · have hb : (s 0 != 9223372036854775807) = false := by simp [h]
    by_cases h' : s 1 = 1
    · have hb' : (s 1 == 1) = true := by simp [h']
      have hE : Hid (wyFo g s = up g 1 1) := by show _ = _; unfold wyFo; rw [if_pos h', if_pos h]
      have hE2 : Hid (sv (up g 1 1) = #[.int .u64 (g 0), .int .u64 1, .int .u64 (g 2), .int .u64 (g 3), .int .u64 (g 4), .int .u64 (g 5), .int .u64 (g 6), .int .u64 (g 7)]) := by show _ = _; simp [up]
      clear h h'
      rw [hE.out]
      go_enter Try.func93, Try.ntmps93
      go_wp2
      all_goals (refine bodyPost_ret (v := .tuple #[.agg (sv (up g 1 1)), .int .i64 0]) ?_ rfl ⟨rfl, by repeat first | exact Below.refl _ _ | refine belowD ?_ | refine belowN ?_ _ | refine bA ?_ (by first | exact Nat.le_refl _ | (simp only [World.size_alloc]; omega)) _⟩)
      all_goals simp only [results, Try.results93, asAddr, hE2.out]
      all_goals go_simp
    · have hb' : (s 1 == 1) = false := by simp [h']
      have hE : Hid (wyFo g s = g) := by show _ = _; unfold wyFo; rw [if_neg h', if_pos h]
      clear h h'
      rw [hE.out]
      go_enter Try.func93, Try.ntmps93
      go_wp2
      all_goals (refine bodyPost_ret (v := .tuple #[.agg (sv g), .int .i64 0]) ?_ rfl ⟨rfl, by repeat first | exact Below.refl _ _ | refine belowD ?_ | refine belowN ?_ _ | refine bA ?_ (by first | exact Nat.le_refl _ | (simp only [World.size_alloc]; omega)) _⟩)
      all_goals simp only [results, Try.results93, asAddr]
      all_goals go_simp
  · have hb : (s 0 != 9223372036854775807) = true := by simp [h]
    by_cases h' : s 1 = 1
    · have hb' : (s 1 == 1) = true := by simp [h']
      have hE : Hid (wyFo g s = up (up g 0 (g 0 + 1)) 1 1) := by show _ = _; unfold wyFo; rw [if_pos h', if_neg h]
      have hE2 : Hid (sv (up (up g 0 (g 0 + 1)) 1 1) = #[.int .u64 (g 0 + 1), .int .u64 1, .int .u64 (g 2), .int .u64 (g 3), .int .u64 (g 4), .int .u64 (g 5), .int .u64 (g 6), .int .u64 (g 7)]) := by show _ = _; simp [up]
      clear h h'
      rw [hE.out]
      go_enter Try.func93, Try.ntmps93
      go_wp2
      all_goals (refine bodyPost_ret (v := .tuple #[.agg (sv (up (up g 0 (g 0 + 1)) 1 1)), .int .i64 0]) ?_ rfl ⟨rfl, by repeat first | exact Below.refl _ _ | refine belowD ?_ | refine belowN ?_ _ | refine bA ?_ (by first | exact Nat.le_refl _ | (simp only [World.size_alloc]; omega)) _⟩)
      all_goals simp only [results, Try.results93, asAddr, hE2.out]
      all_goals go_simp
    · have hb' : (s 1 == 1) = false := by simp [h']
      have hE : Hid (wyFo g s = up g 0 (g 0 + 1)) := by show _ = _; unfold wyFo; rw [if_neg h', if_neg h]
      have hE2 : Hid (sv (up g 0 (g 0 + 1)) = #[.int .u64 (g 0 + 1), .int .u64 (g 1), .int .u64 (g 2), .int .u64 (g 3), .int .u64 (g 4), .int .u64 (g 5), .int .u64 (g 6), .int .u64 (g 7)]) := by show _ = _; simp [up]
      clear h h'
      rw [hE.out]
      go_enter Try.func93, Try.ntmps93
      go_wp2
      all_goals (refine bodyPost_ret (v := .tuple #[.agg (sv (up g 0 (g 0 + 1))), .int .i64 0]) ?_ rfl ⟨rfl, by repeat first | exact Below.refl _ _ | refine belowD ?_ | refine belowN ?_ _ | refine bA ?_ (by first | exact Nat.le_refl _ | (simp only [World.size_alloc]; omega)) _⟩)
      all_goals simp only [results, Try.results93, asAddr, hE2.out]
      all_goals go_simp
abbrev Sa2 (wb q : Nat) (n : Int) (c : Nat → Int) (w : World) : Prop := w.cell? ⟨wb, 0, none⟩ = some (.int .u32 n) ∧ K4 q c w
abbrev Sa4 (wb q : Nat) (c s : Nat → Int) (w : World) : Prop := w.cell? ⟨wb, 3, none⟩ = some (.func (.func 49) #[.pointer (some ⟨wb, 0, none⟩)] #[]) ∧ w.cell? ⟨wb, 4, none⟩ = some (.func (.func 50) #[.pointer (some ⟨wb, 0, none⟩)] #[]) ∧ K4 q c w ∧ K8 (q + 1 + 1) s w
/-- Apply's variables as they lie. -/
structure As (w w' : World) (wb : Nat) (n q k : Int) (c s : Nat → Int) : Prop where
  c : w'.heap[w.heap.size]? = some (.cells (cv c) 37 (0, 0))
  s : w'.heap[w.heap.size + 1 + 1]? = some (.cells (sv s) 35 (0, 0))
  r : w'.heap[w.heap.size + 1 + 1 + 1]? = some (.cells z8 35 (0, 0))
  o : WO w' wb n q k
  b : Below w.heap.size w w'
theorem As.on {w w' w2 : World} {wb : Nat} {n q k : Int} {c s : Nat → Int} (h : As w w' wb n q k c s) (hb : Below w'.heap.size w' w2) : As w w2 wb n q k c s :=
  have lt : ∀ {b : Nat} {o : Obj}, w'.heap[b]? = some o → b < w'.heap.size := fun e => (Array.getElem?_eq_some_iff.1 e).1
  ⟨(hb.block _ (lt h.c)).trans h.c, (hb.block _ (lt h.s)).trans h.s, (hb.block _ (lt h.r)).trans h.r, h.o.on hb, h.b.trans (hb.mono h.b.size)⟩
set_option maxHeartbeats 4000000 in
theorem apply_wy (wb : Nat) (n q k : Int) (c g : Nat → Int) (v : Int) (s : Nat → Int) (h0 : 0 ≤ n) (h1 : n < 4294967296) (c0 : 0 ≤ c 0) (c1 : c 0 ≤ 1000000) (w : World) (hO : WO w wb n q k) : Calls Try.prog 91 #[.pointer (some ⟨wb, 0, none⟩), .agg (cv c), .agg (sv g), .int .u32 v, .agg (sv s)] w fun e w' => e = .returned (.tuple #[.agg (sv (wyAp n c s).1), .bool (wyAp n c s).2, .int .i64 0]) ∧ Below w.heap.size w w' := by
  have HVd := hide (verdict_pace n c h0 h1)
  have HO := hide hO
  obtain ⟨T, B, hT⟩ : ∃ T B, wyAp n c s = (T, B) := ⟨_, _, rfl⟩
  rw [hT]
  obtain ⟨vd, hvd⟩ : ∃ vd, decide (n ≤ c 0) = vd := ⟨_, rfl⟩
  rw [hvd] at HVd
  have HF50 : Hid (vd = true → ∀ W, Below w.heap.size w W → Calls Try.prog 50 #[.pointer (some ⟨wb, 0, none⟩), .agg (cv c), .agg (sv s)] W fun e w' => e = .returned (.tuple #[.agg (sv T), .bool B]) ∧ Below W.heap.size W w') := fun e W hW => by
    have p1 : n ≤ c 0 := by rw [e] at hvd; simpa using hvd
    unfold wyAp at hT
    rw [if_pos p1] at hT
    cases hT
    exact tell_wy wb c s W
  have HF49 : Hid (vd = false → ∀ W, Below w.heap.size w W → Calls Try.prog 49 #[.pointer (some ⟨wb, 0, none⟩), .agg (cv c), .agg (sv s)] W fun e w' => e = .returned (.tuple #[.agg (sv T), .bool B]) ∧ Below W.heap.size W w') := fun e W hW => by
    have p1 : ¬ n ≤ c 0 := by rw [e] at hvd; simpa using hvd
    unfold wyAp at hT
    rw [if_neg p1] at hT
    by_cases p2 : wrap64 (s 3) < wrap64 (s 0)
    · rw [if_pos p2] at hT
      cases hT
      exact shorten_yes wb n q k c s c0 c1 p2 W (HO.out.on hW)
    · rw [if_neg p2] at hT
      cases hT
      exact shorten_no wb c s p2 W
  have HA0 : Hid (As w ((((w.alloc (.cells (cv c) 37)).alloc (.cells (sv g) 35)).alloc (.cells (sv s) 35)).alloc (.cells z8 35)) wb n q k c s) := by
    have hB : Below w.heap.size w ((((w.alloc (.cells (cv c) 37)).alloc (.cells (sv g) 35)).alloc (.cells (sv s) 35)).alloc (.cells z8 35)) := by repeat first | exact Below.refl _ _ | refine belowD ?_ | refine belowN ?_ _ | refine bA ?_ (by first | exact Nat.le_refl _ | (simp only [World.size_alloc]; omega)) _
    refine ⟨keep _ (keep _ (keep _ (at0 w _))), ?_, ?_, HO.out.on hB, hB⟩
    · have h1 := keep (.cells z8 35) (at0 ((w.alloc (.cells (cv c) 37)).alloc (.cells (sv g) 35)) (.cells (sv s) 35))
      simp only [World.size_alloc] at h1; exact h1
    · have h1 := at0 (((w.alloc (.cells (cv c) 37)).alloc (.cells (sv g) 35)).alloc (.cells (sv s) 35)) (.cells z8 35)
      simp only [World.size_alloc] at h1; exact h1
  clear hO hT hvd h0 h1 c0 c1
  go_enter Try.func91, Try.ntmps91
  go_wp2_with (fail)
  generalize ((((w.alloc (.cells (cv c) 37)).alloc (.cells (sv g) 35)).alloc (.cells (sv s) 35)).alloc (.cells z8 35)) = w0 at *
  have HK2 : Hid (∀ W, Below w0.heap.size w0 W → Sa2 wb w.heap.size n c W) := fun W hB => ⟨(HA0.out.on hB).o.w5.1, k4 (HA0.out.on hB).c⟩
  go_region_held3 (Sa2 wb w.heap.size n c) ((refine HK2.out _ ?_; repeat first | exact Below.refl _ _ | refine belowD ?_ | refine belowN ?_ _ | refine bA ?_ (by first | exact Nat.le_refl _ | (simp only [World.size_alloc]; omega)) _)) ((first | (go_at_call 82; refine (HVd.out _).mono ?_; rintro e1 w1 ⟨rfl, hw1⟩; subst w1)))
  have HA2 : Hid (As w ((w0.alloc (.cells #[.int .u32 n] 73)).alloc (.cells (cv c) 37)).drew wb n q k c s) := HA0.out.on (by repeat first | exact Below.refl _ _ | refine belowD ?_ | refine belowN ?_ _ | refine bA ?_ (by first | exact Nat.le_refl _ | (simp only [World.size_alloc]; omega)) _)
  generalize ((w0.alloc (.cells #[.int .u32 n] 73)).alloc (.cells (cv c) 37)).drew = w2 at *
  clear HK2 HA0 HVd
  have HK4 : Hid (∀ W, Below w2.heap.size w2 W → Sa4 wb w.heap.size c s W) := fun W hB => ⟨(HA2.out.on hB).o.w5.2.2.2.1, (HA2.out.on hB).o.w5.2.2.2.2, k4 (HA2.out.on hB).c, k8 (HA2.out.on hB).s⟩
  cases vd with
  | true =>
    have HFt := hide (HF50.out rfl)
    clear HF50 HF49
    go_wp2_with (fail)
    go_region_held3 (Sa4 wb w.heap.size c s) ((first | with_reducible exact HK4.out _ hw2.out | with_reducible exact HK4.out _ (bA hw2.out hw2.out.size _) | with_reducible exact HK4.out _ (belowD (bA hw2.out hw2.out.size _)) | (rw [sets8 HQ.out rfl]; exact HK4.out _ (below_setRow hw2.out (Nat.le_refl _) _)) | (refine HK4.out _ ?_; repeat first | exact Below.refl _ _ | refine belowD ?_ | refine belowN ?_ _ | refine bA ?_ (by first | exact Nat.le_refl _ | (simp only [World.size_alloc]; omega)) _))) ((first | (go_at_call 50; (with_reducible refine (HFt.out w2.drew (belowD HA2.out.b)).mono ?_); rintro e2 w3 ⟨rfl, hw2'⟩; have hw2 : Hid (Below w2.heap.size w2 w3) := (belowD (Below.refl _ w2)).trans hw2'; clear hw2') | (go_at_call 50; (with_reducible refine (HFt.out (w2.alloc (.cells z8 35)).drew (belowD (bA HA2.out.b HA2.out.b.size _))).mono ?_); rintro e2 w3 ⟨rfl, hw2'⟩; have hw2 : Hid (Below w2.heap.size w2 w3) := Below.trans (b := (w2.alloc (.cells z8 35)).drew) (belowD (bA (Below.refl _ w2) (Nat.le_refl _) _)) (hw2'.mono (by simp)); have HQ : Hid (w3.heap[w2.heap.size]? = some (.cells z8 35 (0, 0))) := (hw2'.block _ (by simp)).trans (at0 w2 _); have hk2 := k8 (c := fun _ => 0) HQ.out; have hf2 := f8 HQ.out; clear hw2')))
    · have HA5 : Hid (As w (w3.alloc (.cells (sv T) 35)) wb n q k c s) := (HA2.out.on hw2.out).on (b1 _ _ _)
      have H14 : Hid ((w3.alloc (.cells (sv T) 35)).heap[w3.heap.size]? = some (.cells (sv T) 35 (0, 0))) := at0 _ _
      generalize w3.alloc (.cells (sv T) 35) = w5 at *
      generalize w3.heap.size = b14 at *
      have K1 := k8 H14.out
      have K2 := k8 (c := fun _ => 0) HA5.out.r
      have F2 := f8 HA5.out.r
      clear HK4 HFt hw2 HA2
      go_wp2
      rw [sets8 HA5.out.r rfl]
      refine bodyPost_ret (v := .tuple #[.agg (sv T), .bool B, .int .i64 0]) ?_ rfl ⟨rfl, below_setRow HA5.out.b (by omega) _⟩
      simp only [results, Try.results91, asAddr]
      simp [run_loadVar_row _ _ 35 35 _ (0, 0) _ (setRow_heap _ _ _ (sv T) 35 (0, 0) HA5.out.r) Try.underlying35 rfl size35]
    · rw [sets8 HQ.out rfl]
      have HA5 : Hid (As w (w3.setRow w2.heap.size (sv T)) wb n q k c s) := HA2.out.on (below_setRow hw2.out (Nat.le_refl _) _)
      have H14 : Hid ((w3.setRow w2.heap.size (sv T)).heap[w2.heap.size]? = some (.cells (sv T) 35 (0, 0))) := setRow_heap w3 w2.heap.size _ (sv T) 35 (0, 0) HQ.out
      clear hk2 hf2 HQ
      generalize w3.setRow w2.heap.size (sv T) = w5 at *
      generalize w2.heap.size = b14 at *
      have K1 := k8 H14.out
      have K2 := k8 (c := fun _ => 0) HA5.out.r
      have F2 := f8 HA5.out.r
      clear HK4 HFt hw2 HA2
      go_wp2
      rw [sets8 HA5.out.r rfl]
      refine bodyPost_ret (v := .tuple #[.agg (sv T), .bool B, .int .i64 0]) ?_ rfl ⟨rfl, below_setRow HA5.out.b (by omega) _⟩
      simp only [results, Try.results91, asAddr]
      simp [run_loadVar_row _ _ 35 35 _ (0, 0) _ (setRow_heap _ _ _ (sv T) 35 (0, 0) HA5.out.r) Try.underlying35 rfl size35]
  | false =>
    have HFt := hide (HF49.out rfl)
    clear HF50 HF49
    go_wp2_with (fail)
    go_region_held3 (Sa4 wb w.heap.size c s) ((first | with_reducible exact HK4.out _ hw2.out | with_reducible exact HK4.out _ (bA hw2.out hw2.out.size _) | with_reducible exact HK4.out _ (belowD (bA hw2.out hw2.out.size _)) | (rw [sets8 HQ.out rfl]; exact HK4.out _ (below_setRow hw2.out (Nat.le_refl _) _)) | (refine HK4.out _ ?_; repeat first | exact Below.refl _ _ | refine belowD ?_ | refine belowN ?_ _ | refine bA ?_ (by first | exact Nat.le_refl _ | (simp only [World.size_alloc]; omega)) _))) ((first | (go_at_call 49; (with_reducible refine (HFt.out w2.drew (belowD HA2.out.b)).mono ?_); rintro e2 w3 ⟨rfl, hw2'⟩; have hw2 : Hid (Below w2.heap.size w2 w3) := (belowD (Below.refl _ w2)).trans hw2'; clear hw2') | (go_at_call 49; (with_reducible refine (HFt.out (w2.alloc (.cells z8 35)).drew (belowD (bA HA2.out.b HA2.out.b.size _))).mono ?_); rintro e2 w3 ⟨rfl, hw2'⟩; have hw2 : Hid (Below w2.heap.size w2 w3) := Below.trans (b := (w2.alloc (.cells z8 35)).drew) (belowD (bA (Below.refl _ w2) (Nat.le_refl _) _)) (hw2'.mono (by simp)); have HQ : Hid (w3.heap[w2.heap.size]? = some (.cells z8 35 (0, 0))) := (hw2'.block _ (by simp)).trans (at0 w2 _); have hk2 := k8 (c := fun _ => 0) HQ.out; have hf2 := f8 HQ.out; clear hw2')))
    · have HA5 : Hid (As w (w3.alloc (.cells (sv T) 35)) wb n q k c s) := (HA2.out.on hw2.out).on (b1 _ _ _)
      have H14 : Hid ((w3.alloc (.cells (sv T) 35)).heap[w3.heap.size]? = some (.cells (sv T) 35 (0, 0))) := at0 _ _
      generalize w3.alloc (.cells (sv T) 35) = w5 at *
      generalize w3.heap.size = b14 at *
      have K1 := k8 H14.out
      have K2 := k8 (c := fun _ => 0) HA5.out.r
      have F2 := f8 HA5.out.r
      clear HK4 HFt hw2 HA2
      go_wp2
      rw [sets8 HA5.out.r rfl]
      refine bodyPost_ret (v := .tuple #[.agg (sv T), .bool B, .int .i64 0]) ?_ rfl ⟨rfl, below_setRow HA5.out.b (by omega) _⟩
      simp only [results, Try.results91, asAddr]
      simp [run_loadVar_row _ _ 35 35 _ (0, 0) _ (setRow_heap _ _ _ (sv T) 35 (0, 0) HA5.out.r) Try.underlying35 rfl size35]
    · rw [sets8 HQ.out rfl]
      have HA5 : Hid (As w (w3.setRow w2.heap.size (sv T)) wb n q k c s) := HA2.out.on (below_setRow hw2.out (Nat.le_refl _) _)
      have H14 : Hid ((w3.setRow w2.heap.size (sv T)).heap[w2.heap.size]? = some (.cells (sv T) 35 (0, 0))) := setRow_heap w3 w2.heap.size _ (sv T) 35 (0, 0) HQ.out
      clear hk2 hf2 HQ
      generalize w3.setRow w2.heap.size (sv T) = w5 at *
      generalize w2.heap.size = b14 at *
      have K1 := k8 H14.out
      have K2 := k8 (c := fun _ => 0) HA5.out.r
      have F2 := f8 HA5.out.r
      clear HK4 HFt hw2 HA2
      go_wp2
      rw [sets8 HA5.out.r rfl]
      refine bodyPost_ret (v := .tuple #[.agg (sv T), .bool B, .int .i64 0]) ?_ rfl ⟨rfl, below_setRow HA5.out.b (by omega) _⟩
      simp only [results, Try.results91, asAddr]
      simp [run_loadVar_row _ _ 35 35 _ (0, 0) _ (setRow_heap _ _ _ (sv T) 35 (0, 0) HA5.out.r) Try.underlying35 rfl size35]
end Wp
end Go.Proofs.Ytlhpnhjfibkgpaa
