import Derived.Test.YtgoigcpdfecfhaaGreatDoorCrE
namespace Go.Proofs.YtgoigcpdfecfhaaGreatDoor
namespace Au
open Go.RowKit
set_option linter.unusedVariables false
set_option maxRecDepth 8000
theorem resX16 (T : Array Value) (b : Nat) (a c d : Value) (W : World) (h10 : T[12]? = some (.pointer (some ⟨b, 0, none⟩))) {E : Int} (h11 : T[13]? = some (.int .i64 E)) (h : W.heap[b]? = some (.cells #[a, c, d] 35 (0, 0))) :
    (results Tryz.f16 T).run Tryz.prog W = .ok (.tuple #[.agg #[a, c, d], .int .i64 E]) W := by
  have h0 : W.cell? ⟨b, 0, none⟩ = some a := (cell_of_row _ _ _ _ _ _ h).trans rfl
  have h1 : W.cell? ⟨b, 1, none⟩ = some c := (cell_of_row _ _ _ _ _ _ h).trans rfl
  have h2 : W.cell? ⟨b, 2, none⟩ = some d := (cell_of_row _ _ _ _ _ _ h).trans rfl
  simp [results, Tryz.f16, go_sem, h10, h11, h0, h1, h2]
abbrev SX16 (b kb eb n : Nat) (R s : Int) (ed sl : Value) (w : World) : Prop := w.cell? ⟨b, 0, none⟩ = some (.int .u32 (n : Int)) ∧ w.cell? ⟨b, 1, none⟩ = some (.int .i64 0) ∧ w.cell? ⟨b, 2, none⟩ = some ed ∧ w.cell? ⟨b, 3, none⟩ = some sl ∧ w.cell? ⟨b, 4, none⟩ = some (.bool false) ∧ w.cell? ⟨b, 5, none⟩ = some (.int .u32 0) ∧ w.cell? ⟨b, 6, none⟩ = some (.int .i64 0) ∧ w.cell? ⟨kb, 0, none⟩ = some (.int .i64 R) ∧ w.cell? ⟨eb, 0, none⟩ = some (.int .u64 s)
theorem SX16.mk {b kb eb n : Nat} {R s : Int} {ed sl : Value} {w : World} (h : w.heap[b]? = some (.cells #[.int .u32 (n : Int), .int .i64 0, ed, sl, .bool false, .int .u32 0, .int .i64 0] 69 (0, 0))) (hk : Boxed w kb 3 (.int .i64 R)) (hn : Boxed w eb 28 (.int .u64 s)) : SX16 b kb eb n R s ed sl w := by
  obtain ⟨a, b, c, d, e, f, g⟩ := S11.mk h
  exact ⟨a, b, c, d, e, f, g, hk.cell, hn.cell⟩
abbrev SX16n (b kb eb xb n : Nat) (R s : Int) (ed sl : Value) (w : World) : Prop := SX16 b kb eb n R s ed sl w ∧ w.cell? ⟨xb, 0, none⟩ = some (.int .u32 (n : Int))
set_option maxHeartbeats 8000000 in
theorem regs_any (n rl rb sg sn sc Bt Bf g : Nat) (L : List T3) (f s R : Int) (S : Nat → Nat → Int) (U0 : Nat → Int) (hR : R ≤ 1000) (hf0 : 0 ≤ f) (s0 : 0 ≤ s) (s1 : s < 18446744073709551616) (hn : n < 4294967296) (hsn : sn ≤ 140737488351232) (hr : rl ≤ 5000) (hlen : L.length ≤ 140737488351232) (w : World)
    (hG : GU w rb rl U0) (hU0 : ∀ x, 2 * n ≤ x → x < rl → U0 x = 99) (hF : Fd w g Bt Bf L f) (hS : SR w sg sn S) (hT : Tb w)
    (r1 : rb ≠ g) (r2 : rb ≠ Bt) (r3 : rb ≠ Bf) (r5 : rb ≠ sg) (r8 : 2 ≤ rb) :
    Calls Tryz.prog 16 #[.int .u32 (n : Int), .int .i64 R, .int .u64 s, fe Bt Bf, .slice (some ⟨sg, 0, none⟩) sn sc, .slice (some ⟨rb, 0, none⟩) rl rl] w fun e w' =>
      ∃ E o, e = .returned (.tuple #[.agg (vx E o), .int .i64 E]) ∧ E = dk (rz n R) n sn rl 2 0 L f ∧ (E = 0 → AR n L s R.toNat S o) ∧ Sp w' rb (2 * n) rl ∧ Ch (fun k => k = rb) w w' := by
  have hGl := hG.lt
  obtain ⟨wJ, hwJ⟩ : ∃ wJ, ((((((w.alloc (.cells #[.int .u32 (n : Int)] 22)).alloc (.cells #[.int .i64 R] 3)).alloc (.cells #[.int .u64 s] 28)).alloc (.cells #[.slice (some ⟨sg, 0, none⟩) sn sc] 23)).alloc (.cells z3 35)).alloc (.cells #[.int .u32 (n : Int), .int .i64 0, fe Bt Bf, .slice (some ⟨sg, 0, none⟩) sn sc, .bool false, .int .u32 0, .int .i64 0] 69)) = wJ := ⟨_, rfl⟩
  have hB : Below w.heap.size w wJ := by rw [← hwJ]; exact bA2 (bA2 (bA2 (bA2 (bA2 (b1 _ _ _) _) _) _) _) _
  have hsz : wJ.heap.size = w.heap.size + 6 := by rw [← hwJ]; simp
  have hxb : wJ.heap[w.heap.size]? = some (.cells #[.int .u32 (n : Int)] 22 (0, 0)) := by
    rw [← hwJ]
    have := at0 w (.cells #[.int .u32 (n : Int)] 22)
    exact keep _ (keep _ (keep _ (keep _ (keep _ (this)))))
  have hkb : wJ.heap[w.heap.size + 1]? = some (.cells #[.int .i64 R] 3 (0, 0)) := by
    rw [← hwJ]
    have := at0 (w.alloc (.cells #[.int .u32 (n : Int)] 22)) (.cells #[.int .i64 R] 3)
    simp only [World.size_alloc] at this
    exact keep _ (keep _ (keep _ (keep _ (this))))
  have heb : wJ.heap[w.heap.size + 1 + 1]? = some (.cells #[.int .u64 s] 28 (0, 0)) := by
    rw [← hwJ]
    have := at0 ((w.alloc (.cells #[.int .u32 (n : Int)] 22)).alloc (.cells #[.int .i64 R] 3)) (.cells #[.int .u64 s] 28)
    simp only [World.size_alloc] at this
    exact keep _ (keep _ (keep _ (this)))
  have hsb : wJ.heap[w.heap.size + 1 + 1 + 1]? = some (.cells #[.slice (some ⟨sg, 0, none⟩) sn sc] 23 (0, 0)) := by
    rw [← hwJ]
    have := at0 (((w.alloc (.cells #[.int .u32 (n : Int)] 22)).alloc (.cells #[.int .i64 R] 3)).alloc (.cells #[.int .u64 s] 28)) (.cells #[.slice (some ⟨sg, 0, none⟩) sn sc] 23)
    simp only [World.size_alloc] at this
    exact keep _ (keep _ (this))
  have hz : wJ.heap[w.heap.size + 1 + 1 + 1 + 1]? = some (.cells z3 35 (0, 0)) := by
    rw [← hwJ]
    have := at0 ((((w.alloc (.cells #[.int .u32 (n : Int)] 22)).alloc (.cells #[.int .i64 R] 3)).alloc (.cells #[.int .u64 s] 28)).alloc (.cells #[.slice (some ⟨sg, 0, none⟩) sn sc] 23)) (.cells z3 35)
    simp only [World.size_alloc] at this
    exact keep _ (this)
  have hq : wJ.heap[w.heap.size + 1 + 1 + 1 + 1 + 1]? = some (.cells #[.int .u32 (n : Int), .int .i64 0, fe Bt Bf, .slice (some ⟨sg, 0, none⟩) sn sc, .bool false, .int .u32 0, .int .i64 0] 69 (0, 0)) := by
    rw [← hwJ]
    have := at0 (((((w.alloc (.cells #[.int .u32 (n : Int)] 22)).alloc (.cells #[.int .i64 R] 3)).alloc (.cells #[.int .u64 s] 28)).alloc (.cells #[.slice (some ⟨sg, 0, none⟩) sn sc] 23)).alloc (.cells z3 35)) (.cells #[.int .u32 (n : Int), .int .i64 0, fe Bt Bf, .slice (some ⟨sg, 0, none⟩) sn sc, .bool false, .int .u32 0, .int .i64 0] 69)
    simp only [World.size_alloc] at this
    exact this
  have HJ : Hid (∀ W, Below wJ.heap.size wJ W → Calls Tryz.prog 31 #[.agg #[.int .u32 (n : Int), .int .i64 0, fe Bt Bf, .slice (some ⟨sg, 0, none⟩) sn sc, .bool false, .int .u32 0, .int .i64 0], .int .i64 (rz n R), .slice (some ⟨rb, 0, none⟩) rl rl, .int .i64 2, .func (.func 46) #[] #[.pointer (some ⟨w.heap.size, 0, none⟩), .pointer (some ⟨w.heap.size + 1 + 1, 0, none⟩), .pointer (some ⟨w.heap.size + 1, 0, none⟩), .pointer (some ⟨w.heap.size + 1 + 1 + 1, 0, none⟩)]] W fun e w' =>
      ∃ E o, e = .returned (.tuple #[.agg (vx E o), .int .i64 E]) ∧ E = dk (rz n R) n sn rl 2 0 L f ∧ (E = 0 → AR n L s R.toNat S o) ∧ Sp w' rb (2 * n) rl ∧ Ch (fun k => k = rb) W w') := fun W hW => by
    have h1 : Below w.heap.size w W := hB.trans (hW.mono hB.size)
    exact judge46 n rl rb w.heap.size (w.heap.size + 1 + 1) (w.heap.size + 1) (w.heap.size + 1 + 1 + 1) sg sn sc Bt Bf g L f s R S U0 hR hf0 s0 s1 hn hsn hr hlen W (hG.on h1) hU0 (hF.on (X := fun _ => False) (Ch.of h1) (fun h => h) (fun h => h) (fun h => h)) ((hW.block _ (by omega)).trans hsb) ((hW.block _ (by omega)).trans hxb) ((hW.block _ (by omega)).trans heb) ((hW.block _ (by omega)).trans hkb) (hS.on (X := fun _ => False) (Ch.of h1) (fun h => h)) (hT.b h1) r1 r2 r3 (by omega) r5 (by omega) r8 (by omega) (by omega)
  have HKg : Hid (∀ W, Ch (fun k => k = rb) wJ W → SX16n (w.heap.size + 1 + 1 + 1 + 1 + 1) (w.heap.size + 1) (w.heap.size + 1 + 1) w.heap.size n R s (fe Bt Bf) (.slice (some ⟨sg, 0, none⟩) sn sc) W) := fun W hC => ⟨SX16.mk ((hC.block _ (by omega) (by omega)).trans hq) ((hC.block _ (by omega) (by omega)).trans hkb) ((hC.block _ (by omega) (by omega)).trans heb), (show Boxed W w.heap.size 22 (.int .u32 (n : Int)) from (hC.block _ (by omega) (by omega)).trans hxb).cell⟩
  have HK2 : Hid (∀ W, Ch (fun k => k = rb) wJ W → ∀ a b c, SX16n (w.heap.size + 1 + 1 + 1 + 1 + 1) (w.heap.size + 1) (w.heap.size + 1 + 1) w.heap.size n R s (fe Bt Bf) (.slice (some ⟨sg, 0, none⟩) sn sc) (((W.setCell ⟨w.heap.size + 1 + 1 + 1 + 1, 0, none⟩ a).setCell ⟨w.heap.size + 1 + 1 + 1 + 1, 1, none⟩ b).setCell ⟨w.heap.size + 1 + 1 + 1 + 1, 2, none⟩ c)) := fun W hC a b c => by
    have hC0 : Ch (fun k => k = rb ∨ k = w.heap.size + 1 + 1 + 1 + 1) wJ W := hC.mono (fun k _ h => Or.inl h)
    have hC2 : Ch (fun k => k = rb ∨ k = w.heap.size + 1 + 1 + 1 + 1) wJ (((W.setCell ⟨w.heap.size + 1 + 1 + 1 + 1, 0, none⟩ a).setCell ⟨w.heap.size + 1 + 1 + 1 + 1, 1, none⟩ b).setCell ⟨w.heap.size + 1 + 1 + 1 + 1, 2, none⟩ c) := ((hC0.set 0 a (Or.inl (Or.inr rfl))).set 1 b (Or.inl (Or.inr rfl))).set 2 c (Or.inl (Or.inr rfl))
    exact ⟨SX16.mk ((hC2.block _ (by omega) (by omega)).trans hq) ((hC2.block _ (by omega) (by omega)).trans hkb) ((hC2.block _ (by omega) (by omega)).trans heb), (show Boxed _ w.heap.size 22 (.int .u32 (n : Int)) from (hC2.block _ (by omega) (by omega)).trans hxb).cell⟩
  have HFin : Hid (∀ E o w3, Ch (fun k => k = rb) wJ w3 → E = dk (rz n R) n sn rl 2 0 L f ∧ (E = 0 → AR n L s R.toNat S o) ∧ Sp w3 rb (2 * n) rl → ∀ a b c, (((w3.setCell ⟨w.heap.size + 1 + 1 + 1 + 1, 0, none⟩ a).setCell ⟨w.heap.size + 1 + 1 + 1 + 1, 1, none⟩ b).setCell ⟨w.heap.size + 1 + 1 + 1 + 1, 2, none⟩ c).heap[w.heap.size + 1 + 1 + 1 + 1]? = some (.cells #[a, b, c] 35 (0, 0)) ∧ E = dk (rz n R) n sn rl 2 0 L f ∧ (E = 0 → AR n L s R.toNat S o) ∧ Sp (((w3.setCell ⟨w.heap.size + 1 + 1 + 1 + 1, 0, none⟩ a).setCell ⟨w.heap.size + 1 + 1 + 1 + 1, 1, none⟩ b).setCell ⟨w.heap.size + 1 + 1 + 1 + 1, 2, none⟩ c) rb (2 * n) rl ∧ Ch (fun k => k = rb) w (((w3.setCell ⟨w.heap.size + 1 + 1 + 1 + 1, 0, none⟩ a).setCell ⟨w.heap.size + 1 + 1 + 1 + 1, 1, none⟩ b).setCell ⟨w.heap.size + 1 + 1 + 1 + 1, 2, none⟩ c)) := fun E o w3 hC h a b c => by
    have hz3 : w3.heap[w.heap.size + 1 + 1 + 1 + 1]? = some (.cells z3 35 (0, 0)) := (hC.block _ (by omega) (by omega)).trans hz
    have hC1 : Ch (fun k => k = rb) w w3 := (Ch.of hB).trans hC
    rw [sets3 hz3 rfl]
    exact ⟨setRow_heap _ _ _ _ _ _ hz3, h.1, h.2.1, h.2.2.of (setRow_other _ _ _ _ (by omega)), hC1.row _ (Or.inr (by omega))⟩
  have HZ := hide (hanf_any n R s hR)
  have HEr := hide err32
  have Hz : Hid (∀ w3, Ch (fun k => k = rb) wJ w3 → w3.heap[w.heap.size + 1 + 1 + 1 + 1]? = some (.cells z3 35 (0, 0))) := fun w3 hC => (hC.block _ (by omega) (by omega)).trans hz
  have HwJ := hide hwJ
  clear hG hU0 hF hS hT hB hz hsb hkb heb hxb hsz hwJ hq
  go_enter Tryz.func16, Tryz.ntmps16
  go_wp2_with (fail)
  rw [HwJ.out]
  go_region_held3 (SX16n (w.heap.size + 1 + 1 + 1 + 1 + 1) (w.heap.size + 1) (w.heap.size + 1 + 1) w.heap.size n R s (fe Bt Bf) (.slice (some ⟨sg, 0, none⟩) sn sc)) ((first | with_reducible exact HKg.out _ HC3.out | with_reducible exact HK2.out _ HC3.out _ _ _ | with_reducible exact HKg.out _ (Ch.of HB1.out) | with_reducible exact HKg.out _ (Ch.drew (Ch.refl _ _)))) ((first
    | (go_at_call 45; refine (HZ.out _).mono ?_; rintro e1 w1 ⟨⟨p1, rfl⟩, hB1⟩; have HB1 : Hid (Below wJ.heap.size wJ w1) := (belowD (Below.refl _ wJ)).trans hB1; clear hB1)
    | (go_at_call 32; refine (HEr.out _ _ _).mono ?_; rintro e1 w1' ⟨rfl, rfl⟩)
    | (go_at_call 31; refine (HJ.out _ HB1.out).mono ?_; rintro e3 w3 ⟨E, o, rfl, h1, h2, h3, hC3'⟩; have hC3 : Ch (fun k => k = rb) wJ w3 := (Ch.of HB1.out).trans hC3'; obtain ⟨b0, x0, y0, hv, _, _⟩ := vx_shape E o; have HV := hide hv; rw [hv]; clear hv; have hz3 := Hz.out _ hC3; obtain ⟨g0, g1, g2, f0, f1, f2⟩ := z35 hz3; have HC3 := hide hC3; have HH := hide (And.intro h1 (And.intro h2 h3)); clear hC3 hC3' hz3 h1 h2 h3)))
  all_goals have HE := hide (HFin.out E o w3 HC3.out HH.out (.bool b0) (.int .u32 x0) (.int .i64 y0))
  all_goals clear HFin HH HC3 HKg HK2 HJ HZ HEr Hz HwJ HB1
  all_goals go_wp2
  all_goals (refine bodyPost_ret (v := .tuple #[.agg #[.bool b0, .int .u32 x0, .int .i64 y0], .int .i64 E]) ?_ rfl ?_)
  all_goals first | exact resX16 _ _ _ _ _ _ rfl rfl HE.out.1 | exact ⟨E, o, by rw [HV.out], HE.out.2⟩
end Au
end Go.Proofs.YtgoigcpdfecfhaaGreatDoor
