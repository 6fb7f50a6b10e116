import Derived.Test.YtcepfmeoeepjdaaAuL
namespace Go.Proofs.Ytcepfmeoeepjdaa
namespace Au
open Go.RowKit
set_option linter.unusedVariables false
set_option maxRecDepth 8000
/-- Trees p and q made one: those of q are p's. -/
def mg (ro : Nat → Int) (p q : Int) : Nat → Int := fun v => if ro v = q then p else ro v
/-- A forest: U goes up, ro is where it ends; the pairs of Q are joined, and no more than they. -/
structure Fo (n : Nat) (Q : List (Nat × Nat)) (U ro : Nat → Int) : Prop where
  b : ∀ v, v < n → 0 ≤ U v ∧ U v ≤ v
  r : ∀ v, v < n → 0 ≤ ro v ∧ ro v ≤ v
  r1 : ∀ v, v < n → U v = v → ro v = v
  r2 : ∀ v, v < n → ro (U v).toNat = ro v
  r0 : ∀ v, v < n → U (ro v).toNat = ro v
  j : ∀ e ∈ Q, ro e.1 = ro e.2
  f : ∀ G : Nat → Int, (∀ e ∈ Q, G e.1 = G e.2) → ∀ v, v < n → G (ro v).toNat = G v
theorem Fo.zero (n : Nat) (U : Nat → Int) (h : ∀ v, v < n → U v = v) : Fo n [] U (fun v => (v : Int)) :=
  ⟨fun v hv => by rw [h v hv]; omega, fun v hv => ⟨by omega, by omega⟩, fun v hv _ => rfl, fun v hv => by rw [h v hv]; simp, fun v hv => by simp; exact h v hv, fun e he => (by cases he), fun G _ v hv => by simp⟩
theorem Fo.half {n : Nat} {Q : List (Nat × Nat)} {U ro : Nat → Int} (h : Fo n Q U ro) (v : Nat) (hv : v < n) (hne : U v ≠ v) : Fo n Q (up U v (U (U v).toNat)) ro := by
  have hb := h.b v hv
  have hu : (U v).toNat < n := by omega
  have hb2 := h.b (U v).toNat hu
  refine ⟨fun x hx => ?_, h.r, fun x hx e => ?_, fun x hx => ?_, fun x hx => ?_, h.j, h.f⟩
  · by_cases e : x = v
    · subst e; rw [up_eq]; omega
    · rw [up_ne _ _ _ _ e]; exact h.b x hx
  · by_cases e2 : x = v
    · subst e2; rw [up_eq] at e; omega
    · rw [up_ne _ _ _ _ e2] at e; exact h.r1 x hx e
  · by_cases e : x = v
    · subst e; rw [up_eq, h.r2 _ hu, h.r2 x hx]
    · rw [up_ne _ _ _ _ e]; exact h.r2 x hx
  · have h0 := h.r0 x hx
    have hr := h.r x hx
    by_cases e : (ro x).toNat = v
    · exfalso; rw [e] at h0; omega
    · rw [up_ne _ _ _ _ e]; exact h0
theorem Fo.rr {n : Nat} {Q : List (Nat × Nat)} {U ro : Nat → Int} (h : Fo n Q U ro) (v : Nat) (hv : v < n) : ro (ro v).toNat = ro v := by
  have hr := h.r v hv
  have := h.r1 (ro v).toNat (by omega) (by rw [h.r0 v hv]; omega)
  omega
theorem Fo.flat {n : Nat} {Q : List (Nat × Nat)} {U ro : Nat → Int} (h : Fo n Q U ro) (v : Nat) (hv : v < n) : Fo n Q (up U v (ro v)) ro := by
  have hr := h.r v hv
  refine ⟨fun x hx => ?_, h.r, fun x hx e => ?_, fun x hx => ?_, fun x hx => ?_, h.j, h.f⟩
  · by_cases e : x = v
    · subst e; rw [up_eq]; omega
    · rw [up_ne _ _ _ _ e]; exact h.b x hx
  · by_cases e2 : x = v
    · subst e2; rw [up_eq] at e; omega
    · rw [up_ne _ _ _ _ e2] at e; exact h.r1 x hx e
  · by_cases e : x = v
    · subst e; rw [up_eq]; exact h.rr x hx
    · rw [up_ne _ _ _ _ e]; exact h.r2 x hx
  · by_cases e : (ro x).toNat = v
    · have h2 := h.rr x hx
      rw [e] at h2
      rw [e, up_eq]; exact h2
    · rw [up_ne _ _ _ _ e]; exact h.r0 x hx
theorem Fo.swap {n : Nat} {Q : List (Nat × Nat)} {U ro : Nat → Int} {x y : Nat} (h : Fo n (Q ++ [(y, x)]) U ro) : Fo n (Q ++ [(x, y)]) U ro := by
  refine ⟨h.b, h.r, h.r1, h.r2, h.r0, fun e he => ?_, fun G hG v hv => h.f G (fun e he => ?_) v hv⟩
  · rcases List.mem_append.1 he with k | k
    · exact h.j e (List.mem_append_left _ k)
    · rw [List.mem_singleton.1 k]; exact (h.j (y, x) (List.mem_append_right _ (List.mem_singleton.2 rfl))).symm
  · rcases List.mem_append.1 he with k | k
    · exact hG e (List.mem_append_left _ k)
    · rw [List.mem_singleton.1 k]; exact (hG (x, y) (List.mem_append_right _ (List.mem_singleton.2 rfl))).symm
theorem Fo.join {n : Nat} {Q : List (Nat × Nat)} {U ro : Nat → Int} (h : Fo n Q U ro) (x y : Nat) (hx : x < n) (hy : y < n) (hlt : ro x < ro y) : Fo n (Q ++ [(x, y)]) (up U (ro y).toNat (ro x)) (mg ro (ro x) (ro y)) := by
  have hrx := h.r x hx
  have hry := h.r y hy
  have hax := h.rr x hx
  have hay := h.rr y hy
  refine ⟨fun v hv => ?_, fun v hv => ?_, fun v hv e => ?_, fun v hv => ?_, fun v hv => ?_, fun e he => ?_, fun G hG v hv => ?_⟩
  · by_cases e : v = (ro y).toNat
    · rw [e, up_eq]; omega
    · rw [up_ne _ _ _ _ e]; exact h.b v hv
  · unfold mg
    have := h.r v hv
    split <;> omega
  · by_cases e2 : v = (ro y).toNat
    · rw [e2, up_eq] at e; omega
    · rw [up_ne _ _ _ _ e2] at e
      have h1 := h.r1 v hv e
      unfold mg
      rw [if_neg (by omega)]; exact h1
  · unfold mg
    by_cases e2 : v = (ro y).toNat
    · rw [e2, up_eq, hax, hay, if_neg (by omega), if_pos rfl]
    · rw [up_ne _ _ _ _ e2, h.r2 v hv]
  · unfold mg
    have hrv := h.r v hv
    by_cases e : ro v = ro y
    · rw [if_pos e, up_ne _ _ _ _ (by omega)]; exact h.r0 x hx
    · rw [if_neg e, up_ne _ _ _ _ (by omega)]; exact h.r0 v hv
  · rcases List.mem_append.1 he with k | k
    · unfold mg; rw [h.j e k]
    · rw [List.mem_singleton.1 k]; unfold mg
      show (if ro x = ro y then ro x else ro x) = (if ro y = ro y then ro x else ro y)
      rw [if_neg (by omega), if_pos rfl]
  · have hG1 : ∀ e ∈ Q, G e.1 = G e.2 := fun e he => hG e (List.mem_append_left _ he)
    have hG2 : G x = G y := hG (x, y) (List.mem_append_right _ (List.mem_singleton.2 rfl))
    unfold mg
    by_cases e : ro v = ro y
    · rw [if_pos e, h.f G hG1 x hx, hG2, ← h.f G hG1 v hv, e, h.f G hG1 y hy]
    · rw [if_neg e]; exact h.f G hG1 v hv
theorem Fo.stay {n : Nat} {Q : List (Nat × Nat)} {U ro : Nat → Int} (h : Fo n Q U ro) (x y : Nat) (hx : x < n) (he : ro x = ro y) : Fo n (Q ++ [(x, y)]) (up U (ro x).toNat (ro x)) ro := by
  have hu : up U (ro x).toNat (ro x) = U := by
    funext v
    by_cases e : v = (ro x).toNat
    · subst e; rw [up_eq]; exact (h.r0 x hx).symm
    · exact up_ne _ _ _ _ e
  rw [hu]
  refine ⟨h.b, h.r, h.r1, h.r2, h.r0, fun e k => ?_, fun G hG => h.f G (fun e k => hG e (List.mem_append_left _ k))⟩
  rcases List.mem_append.1 k with k | k
  · exact h.j e k
  · rw [List.mem_singleton.1 k]; exact he
/-- Two of a forest made one. -/
theorem Fo.both {n : Nat} {Q : List (Nat × Nat)} {U ro : Nat → Int} (h : Fo n Q U ro) (x y : Nat) (hx : x < n) (hy : y < n) : ∃ r', Fo n (Q ++ [(x, y)]) (up U (max (ro x) (ro y)).toNat (min (ro x) (ro y))) r' := by
  by_cases h1 : ro x < ro y
  · rw [Int.max_eq_right (by omega), Int.min_eq_left (by omega)]
    exact ⟨_, h.join x y hx hy h1⟩
  · by_cases h2 : ro y < ro x
    · rw [Int.max_eq_left (by omega), Int.min_eq_right (by omega)]
      exact ⟨_, (h.join y x hy hx h2).swap⟩
    · have e : ro x = ro y := by omega
      rw [← e, Int.max_self, Int.min_self]
      exact ⟨_, h.stay x y hx e⟩
/-- What the trees are does not hang on the way they came about. -/
theorem Fo.one {n : Nat} {Q : List (Nat × Nat)} {U ro U' ro' : Nat → Int} (h : Fo n Q U ro) (h' : Fo n Q U' ro') (v : Nat) (hv : v < n) : ro v = ro' v := by
  have h1 := h.f ro' h'.j v hv
  have h2 := h'.f ro h.j v hv
  have a := h.r v hv
  have b := h'.r v hv
  have c := (h'.r (ro v).toNat (by omega)).2
  have d := (h.r (ro' v).toNat (by omega)).2
  omega
set_option maxHeartbeats 4000000 in
theorem root47 (n m b : Nat) (Q : List (Nat × Nat)) (U ro : Nat → Int) (hnm : n ≤ m) (hn : n ≤ 10000) (v : Nat) (hv : v < n) (w : World) (hU : GU w b m U) (hF : Fo n Q U ro) :
    Calls Try.prog 47 #[.slice (some ⟨b, 0, none⟩) n n, .int .u64 (v : Int)] w fun e w' => e = .returned (.int .u64 (ro v)) ∧ ∃ U', GU w' b m U' ∧ Fo n Q U' ro ∧ (∀ x, x < n → U x = ro x → U' x = ro x) ∧ (∀ x, n ≤ x → U' x = U x) ∧ Ch (fun k => k = b) w w' := by
  have HU := hide hU
  have HF := hide hF
  have HV := hide hv
  clear hU hF hv
  go_enter Try.func47, Try.ntmps47
  go_wp2_with (fail)
  go_loopw [1] (fun t wr => ∃ (x : Nat) (U' : Nat → Int), x < n ∧ t = .int .u64 x ∧ Hid (ro x = ro v) ∧ Hid (GU wr b m U') ∧ Hid (Fo n Q U' ro) ∧ Hid (∀ x, x < n → U x = ro x → U' x = ro x) ∧ Hid (∀ x, n ≤ x → U' x = U x) ∧ Hid (Ch (fun k => k = b) w wr)) (fun t _ => (intOf t).toNat)
  case atStart => exact ⟨v, U, HV.out, rfl, rfl, HU, HF, fun _ _ h => h, fun _ _ => rfl, Ch.refl _ _⟩
  case round =>
    clear HU HF HV
    obtain ⟨x, V, hx, rfl, HX, HU, HF, HS, HO, HT⟩ := hrel
    have hb := HF.out.b x hx
    have hc := HU.out.cell x (by omega)
    by_cases e : V x = x
    · have hbb : (V x != (x : Int)) = false := by rw [e]; simp
      have HR : Hid ((x : Int) = ro v) := by
        show _ = _
        rw [← HX.out, HF.out.r1 x hx e]
      clear e hb
      go_wp2
      all_goals go_ret
      all_goals exact ⟨ret_int HR.out, V, HU.out, HF.out, HS.out, HO.out, HT.out⟩
    · have hbb : (V x != (x : Int)) = true := by simp [e]
      obtain ⟨y, hy⟩ : ∃ y : Nat, V x = y := ⟨(V x).toNat, by omega⟩
      have hyn : y < n := by omega
      have hyx : y < x := by omega
      have hb2 := HF.out.b y hyn
      obtain ⟨z, hz⟩ : ∃ z : Nat, V y = z := ⟨(V y).toNat, by omega⟩
      have hzx : z < x := by omega
      have hzn : z < n := by omega
      have HH := hide (HF.out.half x hx e)
      have HHs : Hid (∀ t, t < n → U t = ro t → up V x (V (V x).toNat) t = ro t) := fun t ht h1 => by
        have h2 := HS.out t ht h1
        by_cases e3 : t = x
        · subst e3; rw [up_eq, h2, HF.out.r0 t ht]
        · rw [up_ne _ _ _ _ e3]; exact h2
      have HHo : Hid (∀ t, n ≤ t → up V x (V (V x).toNat) t = U t) := fun t ht => by rw [up_ne _ _ _ _ (by omega)]; exact HO.out t ht
      have HXz : Hid (ro z = ro v) := by
        have h1 := HF.out.r2 x hx
        have h2 := HF.out.r2 y hyn
        rw [hy] at h1
        rw [hz] at h2
        simp only [Int.toNat_natCast] at h1 h2
        show _ = _
        rw [h2, h1]; exact HX.out
      rw [hy] at HH HHs HHo hc hbb
      simp only [Int.toNat_natCast] at HH HHs HHo
      rw [hz] at HH HHs HHo
      have hcy := HU.out.cell y (by omega)
      rw [hz] at hcy
      have hf := HU.out.fz x
      have HU2 := hide (HU.out.set x (z : Int))
      have hc2 : (wr.setCell ⟨b, x, none⟩ (.int .u64 (z : Int))).cell? ⟨b, x, none⟩ = some (.int .u64 (z : Int)) := by
        have := HU2.out.1.cell x (by omega)
        rw [up_eq] at this; exact this
      have HT2 : Hid (Ch (fun k => k = b) w (wr.setCell ⟨b, x, none⟩ (.int .u64 (z : Int)))) := HT.out.set _ _ (Or.inl rfl)
      clear hb hb2 e hy hz HX HS HF HT HO
      go_wp2
      all_goals exact ⟨⟨z, _, hzn, rfl, HXz, HU2.out.1, HH, HHs, HHo, HT2⟩, by simp [intOf]; omega⟩
set_option maxHeartbeats 4000000 in
theorem root54 (n m b : Nat) (Q : List (Nat × Nat)) (U ro : Nat → Int) (hnm : n ≤ m) (hn : n ≤ 10000) (v : Nat) (hv : v < n) (w : World) (hU : GU w b m U) (hF : Fo n Q U ro) :
    Calls Try.prog 54 #[.slice (some ⟨b, 0, none⟩) n n, .int .u64 (v : Int)] w fun e w' => e = .returned (.int .u64 (ro v)) ∧ ∃ U', GU w' b m U' ∧ Fo n Q U' ro ∧ (∀ x, x < n → U x = ro x → U' x = ro x) ∧ (∀ x, n ≤ x → U' x = U x) ∧ Ch (fun k => k = b) w w' := by
  have HU := hide hU
  have HF := hide hF
  have HV := hide hv
  clear hU hF hv
  go_enter Try.func54, Try.ntmps54
  go_wp2_with (fail)
  go_loopw [1] (fun t wr => ∃ (x : Nat) (U' : Nat → Int), x < n ∧ t = .int .u64 x ∧ Hid (ro x = ro v) ∧ Hid (GU wr b m U') ∧ Hid (Fo n Q U' ro) ∧ Hid (∀ x, x < n → U x = ro x → U' x = ro x) ∧ Hid (∀ x, n ≤ x → U' x = U x) ∧ Hid (Ch (fun k => k = b) w wr)) (fun t _ => (intOf t).toNat)
  case atStart => exact ⟨v, U, HV.out, rfl, rfl, HU, HF, fun _ _ h => h, fun _ _ => rfl, Ch.refl _ _⟩
  case round =>
    clear HU HF HV
    obtain ⟨x, V, hx, rfl, HX, HU, HF, HS, HO, HT⟩ := hrel
    have hb := HF.out.b x hx
    have hc := HU.out.cell x (by omega)
    by_cases e : V x = x
    · have hbb : (V x != (x : Int)) = false := by rw [e]; simp
      have HR : Hid ((x : Int) = ro v) := by
        show _ = _
        rw [← HX.out, HF.out.r1 x hx e]
      clear e hb
      go_wp2
      all_goals go_ret
      all_goals exact ⟨ret_int HR.out, V, HU.out, HF.out, HS.out, HO.out, HT.out⟩
    · have hbb : (V x != (x : Int)) = true := by simp [e]
      obtain ⟨y, hy⟩ : ∃ y : Nat, V x = y := ⟨(V x).toNat, by omega⟩
      have hyn : y < n := by omega
      have hyx : y < x := by omega
      have hb2 := HF.out.b y hyn
      obtain ⟨z, hz⟩ : ∃ z : Nat, V y = z := ⟨(V y).toNat, by omega⟩
      have hzx : z < x := by omega
      have hzn : z < n := by omega
      have HH := hide (HF.out.half x hx e)
      have HHs : Hid (∀ t, t < n → U t = ro t → up V x (V (V x).toNat) t = ro t) := fun t ht h1 => by
        have h2 := HS.out t ht h1
        by_cases e3 : t = x
        · subst e3; rw [up_eq, h2, HF.out.r0 t ht]
        · rw [up_ne _ _ _ _ e3]; exact h2
      have HHo : Hid (∀ t, n ≤ t → up V x (V (V x).toNat) t = U t) := fun t ht => by rw [up_ne _ _ _ _ (by omega)]; exact HO.out t ht
      have HXz : Hid (ro z = ro v) := by
        have h1 := HF.out.r2 x hx
        have h2 := HF.out.r2 y hyn
        rw [hy] at h1
        rw [hz] at h2
        simp only [Int.toNat_natCast] at h1 h2
        show _ = _
        rw [h2, h1]; exact HX.out
      rw [hy] at HH HHs HHo hc hbb
      simp only [Int.toNat_natCast] at HH HHs HHo
      rw [hz] at HH HHs HHo
      have hcy := HU.out.cell y (by omega)
      rw [hz] at hcy
      have hf := HU.out.fz x
      have HU2 := hide (HU.out.set x (z : Int))
      have hc2 : (wr.setCell ⟨b, x, none⟩ (.int .u64 (z : Int))).cell? ⟨b, x, none⟩ = some (.int .u64 (z : Int)) := by
        have := HU2.out.1.cell x (by omega)
        rw [up_eq] at this; exact this
      have HT2 : Hid (Ch (fun k => k = b) w (wr.setCell ⟨b, x, none⟩ (.int .u64 (z : Int)))) := HT.out.set _ _ (Or.inl rfl)
      clear hb hb2 e hy hz HX HS HF HT HO
      go_wp2
      all_goals exact ⟨⟨z, _, hzn, rfl, HXz, HU2.out.1, HH, HHs, HHo, HT2⟩, by simp [intOf]; omega⟩
set_option maxHeartbeats 4000000 in
theorem plant_any (n m b : Nat) (U : Nat → Int) (hnm : n ≤ m) (hn : n ≤ 10000) (w : World) (hU : GU w b m U) :
    Calls Try.prog 41 #[.slice (some ⟨b, 0, none⟩) n n] w fun e w' => (∃ x, e = .returned x) ∧ ∃ U', GU w' b m U' ∧ Fo n [] U' (fun v => (v : Int)) ∧ (∀ x, n ≤ x → U' x = U x) ∧ Ch (fun k => k = b) w w' := by
  have HU := hide hU
  clear hU
  go_enter Try.func41, Try.ntmps41
  go_wp2_with (fail)
  go_loopw [5] (fun t wr => ∃ (j : Nat) (V : Nat → Int), j ≤ n ∧ t = .int .i64 j ∧ Hid (GU wr b m V) ∧ Hid (∀ x, x < j → V x = x) ∧ Hid (∀ x, n ≤ x → V x = U x) ∧ Hid (Ch (fun k => k = b) w wr)) (fun t _ => n - (intOf t).toNat)
  case atStart => exact ⟨0, U, Nat.zero_le _, rfl, HU, fun x hx => by omega, fun _ _ => rfl, Ch.refl _ _⟩
  case round =>
    clear HU
    obtain ⟨j, V, hj, rfl, HG, HV, HO, HC⟩ := hrel
    by_cases cc : j < n
    · have hcc : (j : Int) < (n : Int) := by omega
      have hf := HG.out.fz j
      have hc := HG.out.cell j (by omega)
      have hwj : IntKind.u64.wrap (j : Int) = j := wu _ (by omega) (by omega)
      have HG1 : Hid (GU (wr.setCell ⟨b, j, none⟩ (.int .u64 (j : Int))) b m (up V j j)) := (HG.out.set j (j : Int)).1
      have HV1 : Hid (∀ x, x < j + 1 → up V j j x = x) := fun x hx => by
        by_cases e : x = j
        · subst e; exact up_eq _ _ _
        · rw [up_ne _ _ _ _ e]; exact HV.out x (by omega)
      have HO1 : Hid (∀ x, n ≤ x → up V j j x = U x) := fun x hx => by rw [up_ne _ _ _ _ (by omega)]; exact HO.out x hx
      have HC1 : Hid (Ch (fun k => k = b) w (wr.setCell ⟨b, j, none⟩ (.int .u64 (j : Int)))) := HC.out.set _ _ (Or.inl rfl)
      clear HG HV HO HC
      go_wp2
      all_goals exact ⟨⟨j + 1, _, cc, by go_num, HG1, HV1, HO1, HC1⟩, by simp [intOf]; omega⟩
    · have hjn : n = j := by omega
      subst hjn
      go_wp2
      go_end0
      exact ⟨⟨_, rfl⟩, V, HG.out, Fo.zero n V HV.out, HO.out, HC.out⟩
set_option maxHeartbeats 4000000 in
theorem join_any (n m b : Nat) (Q : List (Nat × Nat)) (U ro : Nat → Int) (hnm : n ≤ m) (hn : n ≤ 10000) (x y : Nat) (hx : x < n) (hy : y < n) (w : World) (hU : GU w b m U) (hF : Fo n Q U ro) :
    Calls Try.prog 44 #[.slice (some ⟨b, 0, none⟩) n n, .int .u64 (x : Int), .int .u64 (y : Int)] w fun e w' => (∃ v, e = .returned v) ∧ ∃ U' ro', GU w' b m U' ∧ Fo n (Q ++ [(x, y)]) U' ro' ∧ (∀ x, n ≤ x → U' x = U x) ∧ Ch (fun k => k = b) w w' := by
  have HR1 := hide (root47 n m b Q U ro hnm hn x hx w hU hF)
  clear hU hF
  go_enter Try.func44, Try.ntmps44
  go_wp2_with (fail)
  refine HR1.out.mono ?_
  rintro e1 w1 ⟨rfl, U1, hG1, hF1, _, hO1, hT1⟩
  have HR2 := hide (root47 n m b Q U1 ro hnm hn y hy w1 hG1 hF1)
  clear hG1 hF1
  have HT1 := hide hT1
  have HO1 := hide hO1
  clear hT1 hO1 HR1
  go_wp2_with (fail)
  refine HR2.out.mono ?_
  rintro e2 w2 ⟨rfl, U2, hG2, hF2, _, hO2, hT2⟩
  have hrx := hF2.r x hx
  have hry := hF2.r y hy
  obtain ⟨r', hB⟩ := hF2.both x y hx hy
  obtain ⟨p, hp⟩ : ∃ p : Nat, ro x = p := ⟨(ro x).toNat, by omega⟩
  obtain ⟨q, hq⟩ : ∃ q : Nat, ro y = q := ⟨(ro y).toNat, by omega⟩
  rw [hp, hq]
  rw [hp, hq] at hB
  have HF : Hid (∀ s t : Nat, s < n → Fo n (Q ++ [(x, y)]) (up U2 s t) r' → ∃ U' ro', GU (w2.setCell ⟨b, s, none⟩ (.int .u64 (t : Int))) b m U' ∧ Fo n (Q ++ [(x, y)]) U' ro' ∧ (∀ x, n ≤ x → U' x = U x) ∧ Ch (fun k => k = b) w (w2.setCell ⟨b, s, none⟩ (.int .u64 (t : Int)))) := fun s t hs h => ⟨_, r', (hG2.set s (t : Int)).1, h, fun z hz => by rw [up_ne _ _ _ _ (by omega), hO2 z hz]; exact HO1.out z hz, (HT1.out.trans hT2).set _ _ (Or.inl rfl)⟩
  by_cases hpq : p < q
  · have hB1 : Fo n (Q ++ [(x, y)]) (up U2 q p) r' := by
      rw [Int.max_eq_right (by omega), Int.min_eq_left (by omega)] at hB
      simpa using hB
    have HB := hide (HF.out q p (by omega) hB1)
    have hf := hG2.fz q
    have hc := hG2.cell q (by omega)
    have hqn : q < n := by omega
    have hl : (p : Int) < (q : Int) := by omega
    clear hG2 hF2 hO2 hT2 hB HT1 HO1 HR2 hrx hry hB1 HF
    go_wp2
    go_end0
    exact ⟨⟨_, rfl⟩, HB.out⟩
  · have hB1 : Fo n (Q ++ [(x, y)]) (up U2 p q) r' := by
      rw [Int.max_eq_left (by omega), Int.min_eq_right (by omega)] at hB
      simpa using hB
    have HB := hide (HF.out p q (by omega) hB1)
    have hf := hG2.fz p
    have hc := hG2.cell p (by omega)
    have hpn : p < n := by omega
    clear hG2 hF2 hO2 hT2 hB HT1 HO1 HR2 hrx hry hB1 HF
    by_cases he : p = q
    · subst he
      go_wp2
      go_end0
      exact ⟨⟨_, rfl⟩, HB.out⟩
    · have hl : (q : Int) < (p : Int) := by omega
      have hl2 : ¬ (p : Int) < (q : Int) := by omega
      go_wp2
      go_end0
      exact ⟨⟨_, rfl⟩, HB.out⟩
end Au
end Go.Proofs.Ytcepfmeoeepjdaa
