import Derived.Test.YtlhpnhjfibkgpaaWrD
namespace Go.Proofs.Ytlhpnhjfibkgpaa
namespace Wp
open Go.RowKit
set_option linter.unusedVariables false
set_option maxRecDepth 8000
/-- A list of words as it lies. -/
def GU (w : World) (b n : Nat) (G : Nat → Int) : Prop := ∃ C : Array Value, w.heap[b]? = some (.cells C 33 (0, 0)) ∧ ∀ v, v < n → C[v]? = some (.int .u64 (G v))
theorem GU.lt {w : World} {b n : Nat} {G : Nat → Int} (h : GU w b n G) : b < w.heap.size := by
  obtain ⟨C, h, _⟩ := h
  exact (Array.getElem?_eq_some_iff.1 h).1
theorem GU.of {w w' : World} {b n : Nat} {G : Nat → Int} (h : GU w b n G) (e : w'.heap[b]? = w.heap[b]?) : GU w' b n G := by
  obtain ⟨C, h, h2⟩ := h
  exact ⟨C, e.trans h, h2⟩
theorem GU.on {w w' : World} {b n : Nat} {G : Nat → Int} (h : GU w b n G) (hb : Below w.heap.size w w') : GU w' b n G := h.of (hb.block b h.lt)
theorem GU.ext {w : World} {b n : Nat} {G H : Nat → Int} (h : GU w b n G) (e : ∀ v, v < n → G v = H v) : GU w b n H := by
  obtain ⟨C, h1, h2⟩ := h
  exact ⟨C, h1, fun v hv => by rw [← e v hv]; exact h2 v hv⟩
theorem GU.cell {w : World} {b n : Nat} {G : Nat → Int} (h : GU w b n G) (v : Nat) (hv : v < n) : w.cell? ⟨b, v, none⟩ = some (.int .u64 (G v)) := by
  obtain ⟨C, h, h2⟩ := h
  exact (cell_of_row w b _ _ 33 (0, 0) h).trans (h2 v hv)
theorem GU.fz {w : World} {b n : Nat} {G : Nat → Int} (h : GU w b n G) (j : Nat) : w.frozen? ⟨b, j, none⟩ = false := by
  obtain ⟨C, h, h2⟩ := h
  exact frozen_of_row w b _ _ 33 h
theorem GU.set {w : World} {b n : Nat} {G : Nat → Int} (h : GU w b n G) (j : Nat) (x : Int) : GU (w.setCell ⟨b, j, none⟩ (.int .u64 x)) b n (up G j x) ∧ ∃ C, w.setCell ⟨b, j, none⟩ (.int .u64 x) = w.setRow b C := by
  obtain ⟨C, h, h2⟩ := h
  rw [setCell_eq_setRow w b j C 33 (0, 0) _ h]
  refine ⟨⟨_, setRow_heap w b _ _ 33 (0, 0) h, fun v hv => ?_⟩, _, rfl⟩
  show _ = some (Value.int .u64 (if v = j then x else G v))
  rw [Array.getElem?_setIfInBounds]
  have hv2 := h2 v hv
  have := (Array.getElem?_eq_some_iff.1 hv2).1
  by_cases e : j = v
  · subst e; rw [if_pos rfl, if_pos this, if_pos rfl]
  · rw [if_neg e, if_neg (fun k => e k.symm)]; exact hv2
/-- A forest: U goes up, ro is where it ends; F is the same along it. -/
structure Fo (n : Nat) (F U ro : Nat → Int) : Prop where
  b : ∀ v, v < n → 0 ≤ U v ∧ U v ≤ v
  r : ∀ v, v < n → 0 ≤ ro v ∧ ro v ≤ v
  r1 : ∀ v, v < n → U v = v → ro v = v
  r2 : ∀ v, v < n → ro (U v).toNat = ro v
  r0 : ∀ v, v < n → U (ro v).toNat = ro v
  f : ∀ v, v < n → F (ro v).toNat = F v
theorem Fo.half {n : Nat} {F U ro : Nat → Int} (h : Fo n F U ro) (v : Nat) (hv : v < n) (hne : U v ≠ v) : Fo n F (up U v (U (U v).toNat)) ro := by
  have hb := h.b v hv
  have hu : (U v).toNat < n := by omega
  have hb2 := h.b (U v).toNat hu
  refine ⟨fun x hx => ?_, h.r, fun x hx e => ?_, fun x hx => ?_, fun x hx => ?_, h.f⟩
  · by_cases e : x = v
    · subst e; rw [up_eq]; omega
    · rw [up_ne _ _ _ _ e]; exact h.b x hx
  · by_cases e2 : x = v
    · subst e2; rw [up_eq] at e; omega
    · rw [up_ne _ _ _ _ e2] at e; exact h.r1 x hx e
  · by_cases e : x = v
    · subst e; rw [up_eq, h.r2 _ hu, h.r2 x hx]
    · rw [up_ne _ _ _ _ e]; exact h.r2 x hx
  · have h0 := h.r0 x hx
    have hr := h.r x hx
    by_cases e : (ro x).toNat = v
    · exfalso; rw [e] at h0; omega
    · rw [up_ne _ _ _ _ e]; exact h0
theorem Fo.rr {n : Nat} {F U ro : Nat → Int} (h : Fo n F U ro) (v : Nat) (hv : v < n) : ro (ro v).toNat = ro v := by
  have hr := h.r v hv
  have := h.r1 (ro v).toNat (by omega) (by rw [h.r0 v hv]; omega)
  omega
theorem Fo.flat {n : Nat} {F U ro : Nat → Int} (h : Fo n F U ro) (v : Nat) (hv : v < n) : Fo n F (up U v (ro v)) ro := by
  have hr := h.r v hv
  refine ⟨fun x hx => ?_, h.r, fun x hx e => ?_, fun x hx => ?_, fun x hx => ?_, h.f⟩
  · by_cases e : x = v
    · subst e; rw [up_eq]; omega
    · rw [up_ne _ _ _ _ e]; exact h.b x hx
  · by_cases e2 : x = v
    · subst e2; rw [up_eq] at e; omega
    · rw [up_ne _ _ _ _ e2] at e; exact h.r1 x hx e
  · by_cases e : x = v
    · subst e; rw [up_eq]; exact h.rr x hx
    · rw [up_ne _ _ _ _ e]; exact h.r2 x hx
  · by_cases e : (ro x).toNat = v
    · have h2 := h.rr x hx
      rw [e] at h2
      rw [e, up_eq]; exact h2
    · rw [up_ne _ _ _ _ e]; exact h.r0 x hx
theorem Fo.join {n : Nat} {F U ro : Nat → Int} (h : Fo n F U ro) (x y : Nat) (hx : x < n) (hy : y < n) (hlt : ro x < ro y) (hF : F x = F y) : Fo n F (up U (ro y).toNat (ro x)) (mg ro (ro x) (ro y)) := by
  have hrx := h.r x hx
  have hry := h.r y hy
  have hax := h.rr x hx
  have hay := h.rr y hy
  refine ⟨fun v hv => ?_, fun v hv => ?_, fun v hv e => ?_, fun v hv => ?_, fun v hv => ?_, fun v hv => ?_⟩
  · by_cases e : v = (ro y).toNat
    · rw [e, up_eq]; omega
    · rw [up_ne _ _ _ _ e]; exact h.b v hv
  · unfold mg
    have := h.r v hv
    split <;> omega
  · by_cases e2 : v = (ro y).toNat
    · rw [e2, up_eq] at e; omega
    · rw [up_ne _ _ _ _ e2] at e
      have h1 := h.r1 v hv e
      unfold mg
      rw [if_neg (by omega)]; exact h1
  · unfold mg
    by_cases e2 : v = (ro y).toNat
    · rw [e2, up_eq, hax, hay, if_neg (by omega), if_pos rfl]
    · rw [up_ne _ _ _ _ e2, h.r2 v hv]
  · unfold mg
    have hrv := h.r v hv
    by_cases e : ro v = ro y
    · rw [if_pos e, up_ne _ _ _ _ (by omega)]; exact h.r0 x hx
    · rw [if_neg e, up_ne _ _ _ _ (by omega)]; exact h.r0 v hv
  · unfold mg
    by_cases e : ro v = ro y
    · rw [if_pos e, h.f x hx, hF, ← h.f v hv, e, h.f y hy]
    · rw [if_neg e]; exact h.f v hv
theorem Fo.stay {n : Nat} {F U ro : Nat → Int} (h : Fo n F U ro) (x : Nat) (hx : x < n) : up U (ro x).toNat (ro x) = U := by
  funext v
  by_cases e : v = (ro x).toNat
  · subst e; rw [up_eq]; exact (h.r0 x hx).symm
  · exact up_ne _ _ _ _ e
set_option maxHeartbeats 4000000 in
theorem root_any (n b : Nat) (F U ro : Nat → Int) (hn : n ≤ 1000) (v : Nat) (hv : v < n) (w : World) (hU : GU w b n U) (hF : Fo n F U ro) :
    Calls Try.prog 33 #[.slice (some ⟨b, 0, none⟩) n n, .int .u64 (v : Int)] w fun e w' => e = .returned (.int .u64 (ro v)) ∧ ∃ U', GU w' b n U' ∧ Fo n F U' ro ∧ (∀ x, x < n → U x = ro x → U' x = ro x) ∧ Tw b b w w' := by
  have HU := hide hU
  have HF := hide hF
  have HV := hide hv
  clear hU hF hv
  go_enter Try.func33, Try.ntmps33
  go_wp2_with (fail)
  go_loopw [1] (fun t wr => ∃ (x : Nat) (U' : Nat → Int), x < n ∧ t = .int .u64 x ∧ Hid (ro x = ro v) ∧ Hid (GU wr b n U') ∧ Hid (Fo n F U' ro) ∧ Hid (∀ x, x < n → U x = ro x → U' x = ro x) ∧ Hid (Tw b b w wr)) (fun t _ => (intOf t).toNat)
  case atStart => exact ⟨v, U, HV.out, rfl, rfl, HU, HF, fun _ _ h => h, Tw.refl _ _ _⟩
  case round =>
    clear HU HF HV
    obtain ⟨x, V, hx, rfl, HX, HU, HF, HS, HT⟩ := hrel
    have hb := HF.out.b x hx
    have hc := HU.out.cell x hx
    by_cases e : V x = x
    · have hbb : (V x != (x : Int)) = false := by rw [e]; simp
      have HR : Hid ((x : Int) = ro v) := by
        show _ = _
        rw [← HX.out, HF.out.r1 x hx e]
      clear e hb
      go_wp2
      all_goals go_ret
      all_goals exact ⟨ret_i HR.out, V, HU.out, HF.out, HS.out, HT.out⟩
    · have hbb : (V x != (x : Int)) = true := by simp [e]
      obtain ⟨y, hy⟩ : ∃ y : Nat, V x = y := ⟨(V x).toNat, by omega⟩
      have hyn : y < n := by omega
      have hyx : y < x := by omega
      have hb2 := HF.out.b y hyn
      obtain ⟨z, hz⟩ : ∃ z : Nat, V y = z := ⟨(V y).toNat, by omega⟩
      have hzx : z < x := by omega
      have hzn : z < n := by omega
      have HH := hide (HF.out.half x hx e)
      have HHs : Hid (∀ t, t < n → U t = ro t → up V x (V (V x).toNat) t = ro t) := fun t ht h1 => by
        have h2 := HS.out t ht h1
        by_cases e3 : t = x
        · subst e3; rw [up_eq, h2, HF.out.r0 t ht]
        · rw [up_ne _ _ _ _ e3]; exact h2
      have HXz : Hid (ro z = ro v) := by
        have h1 := HF.out.r2 x hx
        have h2 := HF.out.r2 y hyn
        rw [hy] at h1
        rw [hz] at h2
        simp only [Int.toNat_natCast] at h1 h2
        show _ = _
        rw [h2, h1]; exact HX.out
      rw [hy] at HH HHs hc hbb
      simp only [Int.toNat_natCast] at HH HHs
      rw [hz] at HH HHs
      have hcy := HU.out.cell y hyn
      rw [hz] at hcy
      have hf := HU.out.fz x
      have HU2 := hide (HU.out.set x (z : Int))
      have hc2 : (wr.setCell ⟨b, x, none⟩ (.int .u64 (z : Int))).cell? ⟨b, x, none⟩ = some (.int .u64 (z : Int)) := by
        have := HU2.out.1.cell x hx
        rw [up_eq] at this; exact this
      have HT2 : Hid (Tw b b w (wr.setCell ⟨b, x, none⟩ (.int .u64 (z : Int)))) := by
        obtain ⟨C1, h1⟩ := HU2.out.2
        show Tw _ _ _ _
        rw [h1]
        exact HT.out.row _ (Or.inl rfl)
      clear hb hb2 e hy hz HX HS HF HT
      go_wp2
      all_goals exact ⟨⟨z, _, hzn, rfl, HXz, HU2.out.1, HH, HHs, HT2⟩, by simp [intOf]; omega⟩
end Wp
end Go.Proofs.Ytlhpnhjfibkgpaa
