import Derived.Test.YtipnlcnikpngcaaDoorSqE
namespace Go.Proofs.YtipnlcnikpngcaaDoor
namespace Wp
open Go.RowKit
set_option linter.unusedVariables false
set_option maxRecDepth 8000
/-- The set, as far as the first i places go. -/
structure FP (E : Nat → Int × Int × Int) (m n : Nat) (p : Nat → Nat) (G : Nat → Int) (i : Nat) : Prop where
  b : ∀ v, v < n → G v = 0 ∨ G v = 1
  lo : ∀ v, v < n → p v < i → (G v = 1 ↔ ∀ w, w < n → Adj E m v w → p w < p v → G w ≠ 1)
  hi : ∀ v, v < n → i ≤ p v → G v = 0
theorem FP.yes {E : Nat → Int × Int × Int} {m n : Nat} {p : Nat → Nat} {G : Nat → Int} {i : Nat} (h : FP E m n p G i) (inj : ∀ v w, v < n → w < n → p v = p w → v = w) (v : Nat) (hv : v < n) (e : p v = i) (hf : ∀ w, w < n → p w < i → Adj E m v w → G w ≠ 1) : FP E m n p (fun x => if x = v then 1 else G x) (i + 1) := by
  refine ⟨fun u hu => ?_, fun u hu hl => ?_, fun u hu hl => ?_⟩
  · by_cases c : u = v
    · simp [c]
    · simp only [if_neg c]; exact h.b u hu
  · by_cases c : u = v
    · subst c
      simp only [if_true, true_iff]
      intro w hw ha hp
      rw [if_neg (fun k => ha.1 k.symm)]
      exact hf w hw (by omega) ha
    · simp only [if_neg c]
      have hne : p u ≠ p v := fun k => c (inj u v hu hv k)
      rw [h.lo u hu (by omega)]
      constructor
      · intro q w hw ha hp
        have := q w hw ha hp
        rw [if_neg (fun k => by subst k; omega)]; exact this
      · intro q w hw ha hp
        have := q w hw ha hp
        rw [if_neg (fun k => by subst k; omega)] at this; exact this
  · by_cases c : u = v
    · subst c; omega
    · simp only [if_neg c]; exact h.hi u hu (by omega)
theorem FP.no {E : Nat → Int × Int × Int} {m n : Nat} {p : Nat → Nat} {G : Nat → Int} {i : Nat} (h : FP E m n p G i) (inj : ∀ v w, v < n → w < n → p v = p w → v = w) (v : Nat) (hv : v < n) (e : p v = i) (hf : ¬ ∀ w, w < n → p w < i → Adj E m v w → G w ≠ 1) : FP E m n p G (i + 1) := by
  refine ⟨h.b, fun u hu hl => ?_, fun u hu hl => h.hi u hu (by omega)⟩
  by_cases c : u = v
  · subst c
    rw [h.hi u hu (by omega)]
    constructor
    · intro k; exact absurd k (by decide)
    · intro q; exact absurd (fun w hw hp ha => q w hw ha (by omega)) hf
  · have hne : p u ≠ p v := fun k => c (inj u v hu hv k)
    exact h.lo u hu (by omega)
/-- What lies where. -/
structure FI (E : Nat → Int × Int × Int) (m n : Nat) (p : Nat → Nat) (O : Nat → Nat) (G : Nat → Int) (gb ob i : Nat) (w wr : World) : Prop where
  t : Below w.heap.size w wr
  g : GV wr gb 23 n (fun v => .int .u64 (G v))
  o : GV wr ob 22 n (fun v => .int .u32 (O v : Int))
  f : FP E m n p G i
  e : w.heap.size ≤ gb ∧ gb ≠ ob
theorem FI.on {E : Nat → Int × Int × Int} {m n : Nat} {p : Nat → Nat} {O : Nat → Nat} {G : Nat → Int} {gb ob i : Nat} {w wr w' : World} (h : FI E m n p O G gb ob i w wr) (hb : Below wr.heap.size wr w') : FI E m n p O G gb ob i w w' :=
  ⟨h.t.trans (hb.mono h.t.size), h.g.on hb, h.o.on hb, h.f, h.e⟩
/-- What FirstSet answers. -/
def Fz (E : Nat → Int × Int × Int) (m n : Nat) (p : Nat → Nat) (w : World) (e : Ending) (w' : World) : Prop := ∃ (gb : Nat) (G : Nat → Int), e = .returned (.slice (some ⟨gb, 0, none⟩) n n) ∧ GV w' gb 23 n (fun v => .int .u64 (G v)) ∧ (∀ v, v < n → G v = 0 ∨ G v = 1) ∧ Mis E m n p (fun v => G v = 1) ∧ Below w.heap.size w w' ∧ w.heap.size ≤ gb
theorem Fz.mk {E : Nat → Int × Int × Int} {m n : Nat} {p : Nat → Nat} {O : Nat → Nat} {G : Nat → Int} {gb ob : Nat} {w wr : World} (hp : ∀ v, v < n → p v < n) (h : FI E m n p O G gb ob n w wr) : Fz E m n p w (.returned (.slice (some ⟨gb, 0, none⟩) n n)) wr :=
  ⟨gb, G, rfl, h.g, h.f.b, fun v hv => h.f.lo v hv (hp v hv), h.t, h.e.1⟩
abbrev S2 (ob i j : Nat) (a b : Int) (w : World) : Prop := w.cell? ⟨ob, i, none⟩ = some (.int .u32 a) ∧ w.cell? ⟨ob, j, none⟩ = some (.int .u32 b)
set_option maxHeartbeats 8000000 in
theorem first_set (N A C m c : Nat) (a : Option Addr) (E : Nat → Int × Int × Int) (h0 : 1 ≤ N) (hN : N ≤ 1000) (hA : A < N) (hC : C < N) (hg : Nat.gcd N A = 1) (hm : m ≤ 1048576) (w : World) (hE : ERow w a m E) :
    Calls Tryd.prog 10 #[.agg (rk N A C), .slice a m c] w fun e w' => Fz E m N (pr N A C) w e w' := by
  have HE := hide hE
  have Hinj : Hid (∀ v w, v < N → w < N → pr N A C v = pr N A C w → v = w) := fun v w hv hw e => pr_inj hg hv hw e
  have Hlt : Hid (∀ v, v < N → pr N A C v < N) := fun v _ => pr_lt _ _ _ _ (by omega)
  have HMk := hide (make_word (w.alloc (.cells (rk N A C) 26)) N (by omega))
  have hmk := HMk.out
  have hG := GV.new (w.alloc (.cells (rk N A C) 26)) 23 (.int .u64 0) N
  have HB1 : Hid (Below w.heap.size w ((w.alloc (.cells (rk N A C) 26)).alloc (.cells (madeCells #[.int .u64 0] N) 23))) := bA2 (b1 _ _ _) _
  have HR1 : Hid (((w.alloc (.cells (rk N A C) 26)).alloc (.cells (madeCells #[.int .u64 0] N) 23)).heap[w.heap.size]? = some (.cells (rk N A C) 26 (0, 0))) := keep _ (at0 _ _)
  have HOd : Hid (∀ W, Calls Tryd.prog 27 #[.agg (rk N A C)] W fun e w' => Od N A C W e w') := fun W => order_any N A C h0 hN hA hC hg W
  rw [World.size_alloc] at hG
  have HG := hide hG
  clear hE hA hC hg hG
  generalize madeCells #[.int .u64 0] N = mc at *
  rw [World.size_alloc] at hmk
  go_enter Tryd.func10, Tryd.ntmps10
  go_wp2_with (fail)
  refine (HOd.out _).mono ?_
  rintro e1 w1 ⟨ob, O, rfl, hO', hOp', hB', hob'⟩
  have HF0 : Hid (FI E m N (pr N A C) O (fun _ => 0) (w.heap.size + 1) ob 0 w w1) :=
    ⟨HB1.out.trans (hB'.mono HB1.out.size), HG.out.on hB', hO', ⟨fun _ _ => Or.inl rfl, fun v _ hl => absurd hl (by omega), fun _ _ _ => rfl⟩, ⟨by omega, by simp only [World.size_alloc] at hob'; omega⟩⟩
  have HOp := hide hOp'
  clear hO' hOp' hB' hob' hmk HMk HB1 HR1 HOd HG
  obtain ⟨gb, hgb⟩ : ∃ gb, w.heap.size + 1 = gb := ⟨_, rfl⟩
  rw [hgb] at HF0 ⊢
  clear hgb
  go_wp2_with (fail)
  go_loopw [7] (fun v wr => ∃ (i : Nat) (G : Nat → Int), i ≤ N ∧ v = .int .i64 (i : Int) ∧ Hid (FI E m N (pr N A C) O G gb ob i w wr)) (fun v _ => N - (intOf v).toNat)
  case atStart => exact ⟨0, _, Nat.zero_le _, rfl, HF0⟩
  case round =>
    clear HF0
    obtain ⟨i, G, hi, rfl, HF⟩ := hrel
    by_cases cc : i < N
    · have HC1 := hide cc
      obtain ⟨v, hv⟩ : ∃ v, O i = v := ⟨_, rfl⟩
      have HV : Hid (v < N ∧ pr N A C v = i) := by rw [← hv]; exact HOp.out i cc
      have HOi := hide hv
      clear hv hi
      obtain ⟨wo, rfl⟩ : ∃ wo, wo = wr := ⟨_, rfl⟩
      go_wp2_with (fail)
      go_loopw [9, 8] (fun q z wr => ∃ (j : Nat) (f : Bool), j ≤ i ∧ q = .int .i64 (j : Int) ∧ z = .bool f ∧ Hid (f = true ↔ ∀ u, u < N → pr N A C u < j → Adj E m v u → G u ≠ 1) ∧ Hid (FI E m N (pr N A C) O G gb ob i w wr)) (fun q _ _ => i - (intOf q).toNat)
      case atStart => exact ⟨0, true, Nat.zero_le _, rfl, rfl, ⟨fun _ u _ h => absurd h (by omega), fun _ => rfl⟩, HF⟩
      case round =>
        clear HF
        obtain ⟨j, f, hj, rfl, rfl, HQ, HI⟩ := hrel
        by_cases cj : j < i
        · obtain ⟨u, hu⟩ : ∃ u, O j = u := ⟨_, rfl⟩
          have hjN : j < N := by have := HC1.out; omega
          have HU : Hid (u < N ∧ pr N A C u = j) := by rw [← hu]; exact HOp.out j hjN
          have k1 := HI.out.o.cell i HC1.out
          have k2 := HI.out.o.cell j hjN
          rw [HOi.out] at k1
          rw [hu] at k2
          have HEw : Hid (∀ W, Below w.heap.size w W → ERow W a m E) := fun W h => HE.out.on h
          have HNr : Hid (∀ W, Below w.heap.size w W → Calls Tryd.prog 28 #[.slice a m c, .int .u32 (v : Int), .int .u32 (u : Int)] W fun e w' => e = .returned (.bool (nbr E v u m)) ∧ Below W.heap.size W w') := fun W h => rnear_any v u m c a E hm W (HEw.out W h)
          obtain ⟨nb, hnb⟩ : ∃ nb, nbr E v u m = nb := ⟨_, rfl⟩
          have HNb : Hid (nb = true ↔ Adj E m v u) := by rw [← hnb]; exact nbr_adj E v u m
          rw [hnb] at HNr
          have hS0 : Hid (S2 ob i j (v : Int) (u : Int) wr.drew) := ⟨k1, k2⟩
          have HZ := hide HI.out.o.lt
          have HK : Hid (∀ W, Below wr.heap.size wr W → S2 ob i j (v : Int) (u : Int) W) := fun W h => ⟨(h.cell HZ.out).trans hS0.out.1, (h.cell HZ.out).trans hS0.out.2⟩
          have HTw : Hid (Below w.heap.size w wr.drew) := belowD HI.out.t
          have HCj := hide cj
          have hjl : (j : Int) < (N : Int) := by omega
          have hil : (i : Int) < (N : Int) := by have := HC1.out; omega
          clear hu hnb k1 k2 hj HEw
          go_wp2_with (fail)
          go_region_held3 (S2 ob i j (v : Int) (u : Int)) ((first | with_reducible exact hS0.out | with_reducible exact HK.out _ hw1.out)) ((first | (go_at_call 28; refine (HNr.out _ HTw.out).mono ?_; rintro e3 w1 ⟨rfl, hw1'⟩; have hw1 : Hid (Below wr.heap.size wr w1) := ⟨hw1'.os, hw1'.tape, hw1'.output, hw1'.size, hw1'.block⟩; clear hw1') | fail "no arm"))
          have HI1 := hide (HI.out.on hw1.out)
          have k2 := HI1.out.o.cell j hjN
          have k3' := HI1.out.g.cell u HU.out.1
          have HOj : Hid (O j = u) := by
            have h1 := hS0.out.2
            have h2 := HI.out.o.cell j hjN
            have h3 : w1.cell? ⟨ob, j, none⟩ = some (.int .u32 (u : Int)) := (HK.out _ hw1.out).2
            rw [k2] at h3
            have h4 : (O j : Int) = (u : Int) := by simpa using h3
            show O j = u
            omega
          rw [HOj.out] at k2
          have huN : (u : Int) < (N : Int) := by have := HU.out; omega
          clear hS0 HZ HK HTw HNr hw1
          have HGu := hide (HI1.out.f.b u HU.out.1)
          obtain ⟨gu, hgu⟩ : ∃ gu, G u = gu := ⟨_, rfl⟩
          rw [hgu] at k3' HGu
          have HGe := hide hgu
          clear hgu
          have HR : Hid (∀ f', (f' = true ↔ f = true ∧ ¬ (gu = 1 ∧ nb = true)) → (f' = true ↔ ∀ x, x < N → pr N A C x < j + 1 → Adj E m v x → G x ≠ 1)) := by
            intro f' hf'
            rw [hf', HQ.out]
            constructor
            · rintro ⟨q1, q2⟩ x hx hl ha hG
              by_cases e : pr N A C x = j
              · have ex : x = u := Hinj.out x u hx HU.out.1 (e.trans HU.out.2.symm)
                subst ex
                exact q2 ⟨HGe.out ▸ hG, HNb.out.2 ha⟩
              · exact q1 x hx (by omega) ha hG
            · intro q
              refine ⟨fun x hx hl ha => q x hx (by omega) ha, fun ⟨q1, q2⟩ => ?_⟩
              exact q u HU.out.1 (by have := HU.out.2; omega) (HNb.out.1 q2) (HGe.out.trans q1)
          rcases HGu.out with rfl | rfl <;> cases nb
          all_goals
            clear HGu
            go_wp2_with (fail)
            exact ⟨⟨j + 1, _, HCj.out, by go_num, rfl, HR.out _ (by simp), HI1⟩, by simp [intOf]; have := HCj.out; omega⟩
        · have hij : i = j := by omega
          subst hij
          have k1 := HI.out.o.cell i HC1.out
          rw [HOi.out] at k1
          have hvN : (v : Int) < (N : Int) := by have := HV.out; omega
          have k4' := HI.out.g.cell v HV.out.1
          have f4' := HI.out.g.fz v
          have hil : (i : Int) < (N : Int) := by have := HC1.out; omega
          clear cj hj
          cases f
          · have HFn := hide (HI.out.f.no Hinj.out v HV.out.1 HV.out.2 (fun q => by have := HQ.out.2 q; cases this))
            go_wp2_with (fail)
            exact ⟨⟨i + 1, G, HC1.out, by go_num, ⟨HI.out.t, HI.out.g, HI.out.o, HFn.out, HI.out.e⟩⟩, by simp [intOf]; have := HC1.out; omega⟩
          · have HFn := hide (HI.out.f.yes Hinj.out v HV.out.1 HV.out.2 (HQ.out.1 rfl))
            obtain ⟨D, hD', hGs'⟩ := HI.out.g.set v HV.out.1 (.int .u64 1)
            have hD := hide hD'
            have hGs := hide hGs'
            clear hD' hGs'
            go_wp2_with (fail)
            rw [hD.out]
            refine ⟨⟨i + 1, _, HC1.out, by go_num, ⟨below_setRow HI.out.t HI.out.e.1 _, hGs.out.ext (fun x _ => ?_), HI.out.o.of (setRow_other _ _ _ _ (Ne.symm HI.out.e.2)), HFn.out, HI.out.e⟩⟩, by simp [intOf]; have := HC1.out; omega⟩
            by_cases e : x = v
            · simp [e]
            · simp [e]
    · have hin : N = i := by omega
      subst hin
      clear cc hi
      go_wp2_with (fail)
      go_ret
      exact Fz.mk Hlt.out HF.out
end Wp
end Go.Proofs.YtipnlcnikpngcaaDoor
