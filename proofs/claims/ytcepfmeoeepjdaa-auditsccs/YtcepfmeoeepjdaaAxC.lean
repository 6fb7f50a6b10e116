import Derived.Test.YtcepfmeoeepjdaaAxB
namespace Go.Proofs.Ytcepfmeoeepjdaa
namespace Au
open Go.RowKit
set_option linter.unusedVariables false
set_option maxRecDepth 8000
abbrev S108 (kb eb qb rb sg n sn sc x y : Nat) (s t : Int) (w : World) : Prop := w.cell? ⟨kb, 0, none⟩ = some (.pointer (some ⟨qb, 0, none⟩)) ∧ w.cell? ⟨kb, 1, none⟩ = some (.slice (some ⟨rb, 0, none⟩) n (2 * n)) ∧ w.cell? ⟨kb, 2, none⟩ = some (.slice (some ⟨rb, n, none⟩) n n) ∧ w.cell? ⟨qb, 3, none⟩ = some (.slice (some ⟨sg, 0, none⟩) sn sc) ∧ w.cell? ⟨eb, 0, none⟩ = some (.int .u32 (x : Int)) ∧ w.cell? ⟨eb, 1, none⟩ = some (.int .u32 (y : Int)) ∧ w.cell? ⟨sg, x * 8, none⟩ = some (.int .u64 s) ∧ w.cell? ⟨sg, y * 8, none⟩ = some (.int .u64 t)
theorem s108 {kb qb rb sg n sn sc x y z : Nat} {kd : Int} {ed : Value} {o : Vd} {S : Nat → Nat → Int} {w w' : World} (hx : x < sn) (hy : y < sn) (hK : Kb w kb qb rb n) (hQ : Iq w qb n kd ed (.slice (some ⟨sg, 0, none⟩) sn sc) o) (hS : SR w sg sn S) (hC : Ch (fun k => k = rb) (w.alloc (.cells #[.int .u32 (x : Int), .int .u32 (y : Int), .int .u32 (z : Int)] 73)) w') (r1 : rb ≠ kb) (r2 : rb ≠ qb) (r3 : rb ≠ sg) (r4 : rb < w.heap.size) : S108 kb w.heap.size qb rb sg n sn sc x y (S x 0) (S y 0) w' := by
  have hB := b1 w 73 #[.int .u32 (x : Int), .int .u32 (y : Int), .int .u32 (z : Int)]
  have hC0 : Ch (fun k => k = rb) w w' := (Ch.of hB).trans hC
  obtain ⟨a, b, c⟩ := (show Kb w' kb qb rb n from (hC0.block _ hK.lt (fun e => r1 e.symm)).trans hK).k
  have q := (hQ.on hC0 (fun e => r2 e.symm)).c.2.2.2.1
  have hS' := hS.on hC0 (fun e => r3 e.symm)
  have e1 : w'.heap[w.heap.size]? = some (.cells #[.int .u32 (x : Int), .int .u32 (y : Int), .int .u32 (z : Int)] 73 (0, 0)) := (hC.block _ (by simp) (by omega)).trans (at0 _ _)
  exact ⟨a, b, c, q, (cell_of_row _ _ _ _ _ _ e1).trans rfl, (cell_of_row _ _ _ _ _ _ e1).trans rfl, hS'.c x hx 0 (by decide), hS'.c y hy 0 (by decide)⟩
set_option maxHeartbeats 8000000 in
theorem see108 (n m rb kb mb sg sn sc qb : Nat) (kd : Int) (ed : Value) (o : Vd) (S : Nat → Nat → Int) (H K : Nat → Bool) (b : Bool) (e : T3) (hx : e.1 < n) (hy : e.2.1 < n) (hs : n ≤ sn) (hm : 2 * n ≤ m) (hn : n ≤ 5000) (w : World)
    (hP : Pr w rb n m (w01 H) (w01 K)) (hK : Kb w kb qb rb n) (hM : Boxed w mb 4 (.bool b)) (hQ : Iq w qb n kd ed (.slice (some ⟨sg, 0, none⟩) sn sc) o) (hS : SR w sg sn S)
    (r1 : rb ≠ kb) (r2 : rb ≠ qb) (r3 : rb ≠ sg) (r5 : rb ≠ mb) :
    Calls Try.prog 108 #[eV e.1 e.2.1 e.2.2, .pointer (some ⟨kb, 0, none⟩), .pointer (some ⟨mb, 0, none⟩)] w fun r w' => (∃ v, r = .returned v) ∧ Pr w' rb n m (w01 (sp S false e H)) (w01 (sp S true e K)) ∧ Boxed w' mb 4 (.bool (b || nw S false e H || nw S true e K)) ∧ Ch (fun k => k = rb ∨ k = mb) w w' := by
  obtain ⟨x, y, z⟩ := e
  simp only at hx hy ⊢
  have hlt := hP.lt
  have hMl := hM.lt
  obtain ⟨n1, hn1⟩ : ∃ n1, nw S false (x, y, z) H = n1 := ⟨_, rfl⟩
  obtain ⟨n2, hn2⟩ : ∃ n2, nw S true (x, y, z) K = n2 := ⟨_, rfl⟩
  obtain ⟨H1, hH1⟩ : ∃ H1, sp S false (x, y, z) H = H1 := ⟨_, rfl⟩
  obtain ⟨K1, hK1⟩ : ∃ K1, sp S true (x, y, z) K = K1 := ⟨_, rfl⟩
  rw [hn1, hn2, hH1, hK1]
  have En1 := hide hn1
  have En2 := hide hn2
  have EH1 := hide hH1
  have EK1 := hide hK1
  clear hn1 hn2 hH1 hK1
  obtain ⟨w0, hw0⟩ : ∃ w0, w.alloc (.cells #[.int .u32 (x : Int), .int .u32 (y : Int), .int .u32 (z : Int)] 73) = w0 := ⟨_, rfl⟩
  have hB0 : Below w.heap.size w w0 := by rw [← hw0]; exact b1 _ _ _
  have HK : Hid (∀ W, Ch (fun k => k = rb) w0 W → S108 kb w.heap.size qb rb sg n sn sc x y (S x 0) (S y 0) W) := fun W hC => s108 (z := z) (by omega) (by omega) hK hQ hS (by rw [hw0]; exact hC) r1 r2 r3 hlt
  have HP0 : Hid (Pr w0 rb n m (w01 H) (w01 K)) := hP.of (hB0.block _ hlt)
  have HM0 : Hid (Boxed w0 mb 4 (.bool b)) := (hB0.block _ hMl).trans hM
  have hxn : x < sn := by omega
  have hyn : y < sn := by omega
  have HB0 := hide hB0
  have HW0 := hide hw0
  clear hP hK hM hQ hS hB0 hw0
  go_enter Try.func108, Try.ntmps108
  go_wp2_with (fail)
  rw [HW0.out]
  go_region_held3 (S108 kb w.heap.size qb rb sg n sn sc x y (S x 0) (S y 0)) ((with_reducible exact HK.out _ (Ch.drew (Ch.refl _ _)))) ((fail))
  by_cases he : S x 0 = S y 0
  · have heb : (S x 0 == S y 0) = true := by simpa using he
    have HN1 := hide (fun W => spreadD qb rb n m S false (x, y, z) H (w01 K) he hx hy hm hn W)
    have HN2 := hide (fun W => spreadC qb rb n m S true (x, y, z) K (w01 (sp S false (x, y, z) H)) he.symm hy hx hm hn W)
    rw [En1.out, EH1.out] at HN1
    rw [En2.out, EH1.out, EK1.out] at HN2
    simp only [en, Bool.false_eq_true, if_false, if_true] at HN1 HN2
    clear he En1 En2 EH1 EK1
    go_wp2_with (fail)
    go_region_held3 (S108 kb w.heap.size qb rb sg n sn sc x y (S x 0) (S y 0)) ((first | with_reducible exact HK.out _ HC2.out | with_reducible exact HK.out _ HC1.out | with_reducible exact HK.out _ (Ch.drew (Ch.drew (Ch.refl _ _))))) ((first
      | (have hg := HC1.out; clear hg; go_at_call 109; refine (HN2.out _ (HP1.out.of rfl)).mono ?_; rintro e2 w2 ⟨rfl, hP2, hC2⟩; have HP2 := hide hP2; have HC2 : Hid (Ch (fun k => k = rb) w0 w2) := HC1.out.trans hC2; clear hP2 hC2)
      | (go_at_call 109; refine (HN1.out w0.drew.drew (HP0.out.of rfl)).mono ?_; rintro e1 w1 ⟨rfl, hP1, hC1⟩; have HP1 := hide hP1; have HC1 : Hid (Ch (fun k => k = rb) w0 w1) := (Ch.drew (Ch.drew (Ch.refl _ _))).trans hC1; clear hP1 hC1)))
    have hm2 : Boxed w2 mb 4 (.bool b) := (HC2.out.block _ HM0.out.lt (fun e => r5 e.symm)).trans HM0.out
    have q0 := hm2.cell
    have f0 : w2.frozen? ⟨mb, 0, none⟩ = false := frozen_of_row _ _ _ _ _ hm2
    have HE : Hid (∀ b', Pr (w2.setCell ⟨mb, 0, none⟩ (.bool b')) rb n m (w01 H1) (w01 K1) ∧ Boxed (w2.setCell ⟨mb, 0, none⟩ (.bool b')) mb 4 (.bool b') ∧ Ch (fun k => k = rb ∨ k = mb) w (w2.setCell ⟨mb, 0, none⟩ (.bool b'))) := fun b' => by
      refine ⟨HP2.out.of (Below.heap_setCell _ _ _ _ r5), ?_, (((Ch.of HB0.out).trans HC2.out).mono (fun k _ h => Or.inl h)).set _ _ (Or.inl (Or.inr rfl))⟩
      have h2 : w2.heap[mb]? = some (.cells #[.bool b] 4 (0, 0)) := hm2
      rw [setCell_eq_setRow w2 mb 0 _ 4 (0, 0) _ h2]
      exact setRow_heap w2 mb _ _ 4 (0, 0) h2
    clear HK HP0 HM0 HP1 HC1 HP2 HC2 HN1 HN2 hm2 HB0 HW0
    cases b <;> cases n1 <;> cases n2
    all_goals go_wp2
    all_goals go_end0
    all_goals exact ⟨⟨_, rfl⟩, HE.out _⟩
  · have heb : (S x 0 == S y 0) = false := by simpa using he
    have m1 : nw S false (x, y, z) H = false := by unfold nw; simp only [en, Bool.false_eq_true, if_false]; rw [heb]; rfl
    have m2 : nw S true (x, y, z) K = false := by
      have : (S y 0 == S x 0) = false := by simpa using fun q => he q.symm
      unfold nw; simp only [en, if_true]; rw [this]; rfl
    have HE : Hid (Pr w0.drew rb n m (w01 H1) (w01 K1) ∧ Boxed w0.drew mb 4 (.bool (b || n1 || n2)) ∧ Ch (fun k => k = rb ∨ k = mb) w w0.drew) := by
      show _ ∧ _ ∧ _
      rw [← EH1.out, ← EK1.out, ← En1.out, ← En2.out, sp_old m1, sp_old m2, m1, m2, Bool.or_false, Bool.or_false]
      exact ⟨HP0.out.of rfl, HM0.out, (Ch.of HB0.out).drew⟩
    clear HK HP0 HM0 HB0 HW0 m1 m2 he En1 En2 EH1 EK1
    go_wp2
    all_goals go_end0
    all_goals exact ⟨⟨_, rfl⟩, HE.out⟩
theorem enters108 (A : Array Value) (W : World) : (callFunc 108 A).run Try.prog W = .ok (.enter 108 A) W := enters_of Try.func108 (by kernel_rfl) rfl A W
theorem enters110 (A : Array Value) (W : World) : (callFunc 110 A).run Try.prog W = .ok (.enter 110 A) W := enters_of Try.func110 (by kernel_rfl) rfl A W
theorem enters111 (A : Array Value) (W : World) : (callFunc 111 A).run Try.prog W = .ok (.enter 111 A) W := enters_of Try.func111 (by kernel_rfl) rfl A W
set_option maxHeartbeats 4000000 in
theorem rule110 (n rb kb sg sn sc qb v : Nat) (kd : Int) (ed : Value) (o : Vd) (S : Nat → Nat → Int) (hv : v < n) (hs : n ≤ sn) (hn : n ≤ 5000) (h0 : 0 ≤ S v 0) (w : World) (hK : Kb w kb qb rb n) (hQ : Iq w qb n kd ed (.slice (some ⟨sg, 0, none⟩) sn sc) o) (hS : SR w sg sn S) :
    Calls Try.prog 110 #[.int .u32 (v : Int), .pointer (some ⟨kb, 0, none⟩)] w fun e w' => e = .returned (.bool (br1 S v)) ∧ w' = w := by
  obtain ⟨k0, k1, k2⟩ := hK.k
  have q3 := hQ.c.2.2.2.1
  have s0 := hS.c v (by omega) 0 (by decide)
  rw [Nat.add_zero] at s0
  have hcv : IntKind.u64.wrap (v : Int) = v := wu _ (by omega) (by omega)
  obtain ⟨l, hl⟩ : ∃ l : Nat, S v 0 = l := ⟨(S v 0).toNat, by omega⟩
  have hb : br1 S v = (decide ((v : Int) < (l : Int)) || S l 0 != (l : Int)) := by unfold br1; rw [hl]; simp
  rw [hb]
  rw [hl] at s0
  have hvn : v < sn := by omega
  by_cases hlv : v < l
  · have hd : decide ((v : Int) < (l : Int)) = true := by simp; omega
    have hd2 : (v : Int) < (l : Int) := by omega
    rw [hd]
    clear hK hQ hS hl hb h0
    go_enter Try.func110, Try.ntmps110
    go_wp2
    all_goals go_ret
    all_goals exact ⟨rfl, rfl⟩
  · have hd : decide ((v : Int) < (l : Int)) = false := by simp; omega
    have hd2 : ¬ (v : Int) < (l : Int) := by omega
    have s1 := hS.c l (by omega) 0 (by decide)
    rw [Nat.add_zero] at s1
    have hln : l < sn := by omega
    rw [hd]
    clear hK hQ hS hl hb h0
    go_enter Try.func110, Try.ntmps110
    go_wp2
    all_goals go_ret
    all_goals exact ⟨rfl, rfl⟩
set_option maxHeartbeats 4000000 in
theorem rule111 (n m rb kb qb v : Nat) (H K : Nat → Bool) (hv : v < n) (hm : 2 * n ≤ m) (hn : n ≤ 5000) (w : World) (hK : Kb w kb qb rb n) (hP : Pr w rb n m (w01 H) (w01 K)) :
    Calls Try.prog 111 #[.int .u32 (v : Int), .pointer (some ⟨kb, 0, none⟩)] w fun e w' => e = .returned (.bool (!H v || !K v)) ∧ w' = w := by
  obtain ⟨k0, k1, k2⟩ := hK.k
  have d := hP.d hm v hv
  have c := hP.c hm v hv
  have hvn : (v : Int) < (n : Int) := by omega
  clear hK hP
  cases h1 : H v with
  | true =>
    rw [w01_t h1] at d
    cases h2 : K v with
    | true =>
      rw [w01_t h2] at c
      clear h1 h2
      go_enter Try.func111, Try.ntmps111
      go_wp2
      all_goals go_ret
      all_goals exact ⟨rfl, rfl⟩
    | false =>
      rw [w01_f h2] at c
      clear h1 h2
      go_enter Try.func111, Try.ntmps111
      go_wp2
      all_goals go_ret
      all_goals exact ⟨rfl, rfl⟩
  | false =>
    rw [w01_f h1] at d
    clear h1 c
    go_enter Try.func111, Try.ntmps111
    go_wp2
    all_goals go_ret
    all_goals exact ⟨rfl, rfl⟩
end Au
end Go.Proofs.Ytcepfmeoeepjdaa
