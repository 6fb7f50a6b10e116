import Derived.Test.YtgoigcpdfecfhaaGreatDoorMgD
namespace Go.Proofs.YtgoigcpdfecfhaaGreatDoor
namespace Au
open Go.RowKit
set_option linter.unusedVariables false
set_option maxRecDepth 8000
/-- Trees p and q made one: those of q are p's. -/
def mg (ro : Nat → Int) (p q : Int) : Nat → Int := fun v => if ro v = q then p else ro v
/-- A forest: U goes up, ro is where it ends; the pairs of Q are joined, and no more than they. -/
structure Fo (n : Nat) (Q : List (Nat × Nat)) (U ro : Nat → Int) : Prop where
  b : ∀ v, v < n → 0 ≤ U v ∧ U v ≤ v
  r : ∀ v, v < n → 0 ≤ ro v ∧ ro v ≤ v
  r1 : ∀ v, v < n → U v = v → ro v = v
  r2 : ∀ v, v < n → ro (U v).toNat = ro v
  r0 : ∀ v, v < n → U (ro v).toNat = ro v
  j : ∀ e ∈ Q, ro e.1 = ro e.2
  f : ∀ G : Nat → Int, (∀ e ∈ Q, G e.1 = G e.2) → ∀ v, v < n → G (ro v).toNat = G v
theorem Fo.zero (n : Nat) (U : Nat → Int) (h : ∀ v, v < n → U v = v) : Fo n [] U (fun v => (v : Int)) :=
  ⟨fun v hv => by rw [h v hv]; omega, fun v hv => ⟨by omega, by omega⟩, fun v hv _ => rfl, fun v hv => by rw [h v hv]; simp, fun v hv => by simp; exact h v hv, fun e he => (by cases he), fun G _ v hv => by simp⟩
theorem Fo.half {n : Nat} {Q : List (Nat × Nat)} {U ro : Nat → Int} (h : Fo n Q U ro) (v : Nat) (hv : v < n) (hne : U v ≠ v) : Fo n Q (up U v (U (U v).toNat)) ro := by
  have hb := h.b v hv
  have hu : (U v).toNat < n := by omega
  have hb2 := h.b (U v).toNat hu
  refine ⟨fun x hx => ?_, h.r, fun x hx e => ?_, fun x hx => ?_, fun x hx => ?_, h.j, h.f⟩
  · by_cases e : x = v
    · subst e; rw [up_eq]; omega
    · rw [up_ne _ _ _ _ e]; exact h.b x hx
  · by_cases e2 : x = v
    · subst e2; rw [up_eq] at e; omega
    · rw [up_ne _ _ _ _ e2] at e; exact h.r1 x hx e
  · by_cases e : x = v
    · subst e; rw [up_eq, h.r2 _ hu, h.r2 x hx]
    · rw [up_ne _ _ _ _ e]; exact h.r2 x hx
  · have h0 := h.r0 x hx
    have hr := h.r x hx
    by_cases e : (ro x).toNat = v
    · exfalso; rw [e] at h0; omega
    · rw [up_ne _ _ _ _ e]; exact h0
theorem Fo.rr {n : Nat} {Q : List (Nat × Nat)} {U ro : Nat → Int} (h : Fo n Q U ro) (v : Nat) (hv : v < n) : ro (ro v).toNat = ro v := by
  have hr := h.r v hv
  have := h.r1 (ro v).toNat (by omega) (by rw [h.r0 v hv]; omega)
  omega
theorem Fo.flat {n : Nat} {Q : List (Nat × Nat)} {U ro : Nat → Int} (h : Fo n Q U ro) (v : Nat) (hv : v < n) : Fo n Q (up U v (ro v)) ro := by
  have hr := h.r v hv
  refine ⟨fun x hx => ?_, h.r, fun x hx e => ?_, fun x hx => ?_, fun x hx => ?_, h.j, h.f⟩
  · by_cases e : x = v
    · subst e; rw [up_eq]; omega
    · rw [up_ne _ _ _ _ e]; exact h.b x hx
  · by_cases e2 : x = v
    · subst e2; rw [up_eq] at e; omega
    · rw [up_ne _ _ _ _ e2] at e; exact h.r1 x hx e
  · by_cases e : x = v
    · subst e; rw [up_eq]; exact h.rr x hx
    · rw [up_ne _ _ _ _ e]; exact h.r2 x hx
  · by_cases e : (ro x).toNat = v
    · have h2 := h.rr x hx
      rw [e] at h2
      rw [e, up_eq]; exact h2
    · rw [up_ne _ _ _ _ e]; exact h.r0 x hx
theorem Fo.swap {n : Nat} {Q : List (Nat × Nat)} {U ro : Nat → Int} {x y : Nat} (h : Fo n (Q ++ [(y, x)]) U ro) : Fo n (Q ++ [(x, y)]) U ro := by
  refine ⟨h.b, h.r, h.r1, h.r2, h.r0, fun e he => ?_, fun G hG v hv => h.f G (fun e he => ?_) v hv⟩
  · rcases List.mem_append.1 he with k | k
    · exact h.j e (List.mem_append_left _ k)
    · rw [List.mem_singleton.1 k]; exact (h.j (y, x) (List.mem_append_right _ (List.mem_singleton.2 rfl))).symm
  · rcases List.mem_append.1 he with k | k
    · exact hG e (List.mem_append_left _ k)
    · rw [List.mem_singleton.1 k]; exact (hG (x, y) (List.mem_append_right _ (List.mem_singleton.2 rfl))).symm
theorem Fo.join {n : Nat} {Q : List (Nat × Nat)} {U ro : Nat → Int} (h : Fo n Q U ro) (x y : Nat) (hx : x < n) (hy : y < n) (hlt : ro x < ro y) : Fo n (Q ++ [(x, y)]) (up U (ro y).toNat (ro x)) (mg ro (ro x) (ro y)) := by
  have hrx := h.r x hx
  have hry := h.r y hy
  have hax := h.rr x hx
  have hay := h.rr y hy
  refine ⟨fun v hv => ?_, fun v hv => ?_, fun v hv e => ?_, fun v hv => ?_, fun v hv => ?_, fun e he => ?_, fun G hG v hv => ?_⟩
  · by_cases e : v = (ro y).toNat
    · rw [e, up_eq]; omega
    · rw [up_ne _ _ _ _ e]; exact h.b v hv
  · unfold mg
    have := h.r v hv
    split <;> omega
  · by_cases e2 : v = (ro y).toNat
    · rw [e2, up_eq] at e; omega
    · rw [up_ne _ _ _ _ e2] at e
      have h1 := h.r1 v hv e
      unfold mg
      rw [if_neg (by omega)]; exact h1
  · unfold mg
    by_cases e2 : v = (ro y).toNat
    · rw [e2, up_eq, hax, hay, if_neg (by omega), if_pos rfl]
    · rw [up_ne _ _ _ _ e2, h.r2 v hv]
  · unfold mg
    have hrv := h.r v hv
    by_cases e : ro v = ro y
    · rw [if_pos e, up_ne _ _ _ _ (by omega)]; exact h.r0 x hx
    · rw [if_neg e, up_ne _ _ _ _ (by omega)]; exact h.r0 v hv
  · rcases List.mem_append.1 he with k | k
    · unfold mg; rw [h.j e k]
    · rw [List.mem_singleton.1 k]; unfold mg
      show (if ro x = ro y then ro x else ro x) = (if ro y = ro y then ro x else ro y)
      rw [if_neg (by omega), if_pos rfl]
  · have hG1 : ∀ e ∈ Q, G e.1 = G e.2 := fun e he => hG e (List.mem_append_left _ he)
    have hG2 : G x = G y := hG (x, y) (List.mem_append_right _ (List.mem_singleton.2 rfl))
    unfold mg
    by_cases e : ro v = ro y
    · rw [if_pos e, h.f G hG1 x hx, hG2, ← h.f G hG1 v hv, e, h.f G hG1 y hy]
    · rw [if_neg e]; exact h.f G hG1 v hv
theorem Fo.stay {n : Nat} {Q : List (Nat × Nat)} {U ro : Nat → Int} (h : Fo n Q U ro) (x y : Nat) (hx : x < n) (he : ro x = ro y) : Fo n (Q ++ [(x, y)]) (up U (ro x).toNat (ro x)) ro := by
  have hu : up U (ro x).toNat (ro x) = U := by
    funext v
    by_cases e : v = (ro x).toNat
    · subst e; rw [up_eq]; exact (h.r0 x hx).symm
    · exact up_ne _ _ _ _ e
  rw [hu]
  refine ⟨h.b, h.r, h.r1, h.r2, h.r0, fun e k => ?_, fun G hG => h.f G (fun e k => hG e (List.mem_append_left _ k))⟩
  rcases List.mem_append.1 k with k | k
  · exact h.j e k
  · rw [List.mem_singleton.1 k]; exact he
/-- Two of a forest made one. -/
theorem Fo.both {n : Nat} {Q : List (Nat × Nat)} {U ro : Nat → Int} (h : Fo n Q U ro) (x y : Nat) (hx : x < n) (hy : y < n) : ∃ r', Fo n (Q ++ [(x, y)]) (up U (max (ro x) (ro y)).toNat (min (ro x) (ro y))) r' := by
  by_cases h1 : ro x < ro y
  · rw [Int.max_eq_right (by omega), Int.min_eq_left (by omega)]
    exact ⟨_, h.join x y hx hy h1⟩
  · by_cases h2 : ro y < ro x
    · rw [Int.max_eq_left (by omega), Int.min_eq_right (by omega)]
      exact ⟨_, (h.join y x hy hx h2).swap⟩
    · have e : ro x = ro y := by omega
      rw [← e, Int.max_self, Int.min_self]
      exact ⟨_, h.stay x y hx e⟩
/-- What the trees are does not hang on the way they came about. -/
theorem Fo.one {n : Nat} {Q : List (Nat × Nat)} {U ro U' ro' : Nat → Int} (h : Fo n Q U ro) (h' : Fo n Q U' ro') (v : Nat) (hv : v < n) : ro v = ro' v := by
  have h1 := h.f ro' h'.j v hv
  have h2 := h'.f ro h.j v hv
  have a := h.r v hv
  have b := h'.r v hv
  have c := (h'.r (ro v).toNat (by omega)).2
  have d := (h.r (ro' v).toNat (by omega)).2
  omega
set_option maxHeartbeats 4000000 in
theorem root47 (n m b : Nat) (Q : List (Nat × Nat)) (U ro : Nat → Int) (hnm : n ≤ m) (hn : n ≤ 10000) (v : Nat) (hv : v < n) (w : World) (hU : GU w b m U) (hF : Fo n Q U ro) :
    Calls Tryz.prog 134 #[.slice (some ⟨b, 0, none⟩) n n, .int .u64 (v : Int)] w fun e w' => e = .returned (.int .u64 (ro v)) ∧ ∃ U', GU w' b m U' ∧ Fo n Q U' ro ∧ (∀ x, x < n → U x = ro x → U' x = ro x) ∧ (∀ x, n ≤ x → U' x = U x) ∧ Ch (fun k => k = b) w w' := by
  have HU := hide hU
  have HF := hide hF
  have HV := hide hv
  clear hU hF hv
  go_enter Tryz.func134, Tryz.ntmps134
  go_wp2_with (fail)
  go_loopw [1] (fun t wr => ∃ (x : Nat) (U' : Nat → Int), x < n ∧ t = .int .u64 x ∧ Hid (ro x = ro v) ∧ Hid (GU wr b m U') ∧ Hid (Fo n Q U' ro) ∧ Hid (∀ x, x < n → U x = ro x → U' x = ro x) ∧ Hid (∀ x, n ≤ x → U' x = U x) ∧ Hid (Ch (fun k => k = b) w wr)) (fun t _ => (intOf t).toNat)
  case atStart => exact ⟨v, U, HV.out, rfl, rfl, HU, HF, fun _ _ h => h, fun _ _ => rfl, Ch.refl _ _⟩
  case round =>
    clear HU HF HV
    obtain ⟨x, V, hx, rfl, HX, HU, HF, HS, HO, HT⟩ := hrel
    have hb := HF.out.b x hx
    have hc := HU.out.cell x (by omega)
    by_cases e : V x = x
    · have hbb : (V x != (x : Int)) = false := by rw [e]; simp
      have HR : Hid ((x : Int) = ro v) := by
        show _ = _
        rw [← HX.out, HF.out.r1 x hx e]
      clear e hb
      go_wp2
      all_goals go_ret
      all_goals exact ⟨ret_int HR.out, V, HU.out, HF.out, HS.out, HO.out, HT.out⟩
    · have hbb : (V x != (x : Int)) = true := by simp [e]
      obtain ⟨y, hy⟩ : ∃ y : Nat, V x = y := ⟨(V x).toNat, by omega⟩
      have hyn : y < n := by omega
      have hyx : y < x := by omega
      have hb2 := HF.out.b y hyn
      obtain ⟨z, hz⟩ : ∃ z : Nat, V y = z := ⟨(V y).toNat, by omega⟩
      have hzx : z < x := by omega
      have hzn : z < n := by omega
      have HH := hide (HF.out.half x hx e)
      have HHs : Hid (∀ t, t < n → U t = ro t → up V x (V (V x).toNat) t = ro t) := fun t ht h1 => by
        have h2 := HS.out t ht h1
        by_cases e3 : t = x
        · subst e3; rw [up_eq, h2, HF.out.r0 t ht]
        · rw [up_ne _ _ _ _ e3]; exact h2
      have HHo : Hid (∀ t, n ≤ t → up V x (V (V x).toNat) t = U t) := fun t ht => by rw [up_ne _ _ _ _ (by omega)]; exact HO.out t ht
      have HXz : Hid (ro z = ro v) := by
        have h1 := HF.out.r2 x hx
        have h2 := HF.out.r2 y hyn
        rw [hy] at h1
        rw [hz] at h2
        simp only [Int.toNat_natCast] at h1 h2
        show _ = _
        rw [h2, h1]; exact HX.out
      rw [hy] at HH HHs HHo hc hbb
      simp only [Int.toNat_natCast] at HH HHs HHo
      rw [hz] at HH HHs HHo
      have hcy := HU.out.cell y (by omega)
      rw [hz] at hcy
      have hf := HU.out.fz x
      have HU2 := hide (HU.out.set x (z : Int))
      have hc2 : (wr.setCell ⟨b, x, none⟩ (.int .u64 (z : Int))).cell? ⟨b, x, none⟩ = some (.int .u64 (z : Int)) := by
        have := HU2.out.1.cell x (by omega)
        rw [up_eq] at this; exact this
      have HT2 : Hid (Ch (fun k => k = b) w (wr.setCell ⟨b, x, none⟩ (.int .u64 (z : Int)))) := HT.out.set _ _ (Or.inl rfl)
      clear hb hb2 e hy hz HX HS HF HT HO
      go_wp2
      all_goals exact ⟨⟨z, _, hzn, rfl, HXz, HU2.out.1, HH, HHs, HHo, HT2⟩, by simp [intOf]; omega⟩
set_option maxHeartbeats 4000000 in
theorem root54 (n m b : Nat) (Q : List (Nat × Nat)) (U ro : Nat → Int) (hnm : n ≤ m) (hn : n ≤ 10000) (v : Nat) (hv : v < n) (w : World) (hU : GU w b m U) (hF : Fo n Q U ro) :
    Calls Tryz.prog 173 #[.slice (some ⟨b, 0, none⟩) n n, .int .u64 (v : Int)] w fun e w' => e = .returned (.int .u64 (ro v)) ∧ ∃ U', GU w' b m U' ∧ Fo n Q U' ro ∧ (∀ x, x < n → U x = ro x → U' x = ro x) ∧ (∀ x, n ≤ x → U' x = U x) ∧ Ch (fun k => k = b) w w' := by
  have HU := hide hU
  have HF := hide hF
  have HV := hide hv
  clear hU hF hv
  go_enter Tryz.func173, Tryz.ntmps173
  go_wp2_with (fail)
  go_loopw [1] (fun t wr => ∃ (x : Nat) (U' : Nat → Int), x < n ∧ t = .int .u64 x ∧ Hid (ro x = ro v) ∧ Hid (GU wr b m U') ∧ Hid (Fo n Q U' ro) ∧ Hid (∀ x, x < n → U x = ro x → U' x = ro x) ∧ Hid (∀ x, n ≤ x → U' x = U x) ∧ Hid (Ch (fun k => k = b) w wr)) (fun t _ => (intOf t).toNat)
  case atStart => exact ⟨v, U, HV.out, rfl, rfl, HU, HF, fun _ _ h => h, fun _ _ => rfl, Ch.refl _ _⟩
  case round =>
    clear HU HF HV
    obtain ⟨x, V, hx, rfl, HX, HU, HF, HS, HO, HT⟩ := hrel
    have hb := HF.out.b x hx
    have hc := HU.out.cell x (by omega)
    by_cases e : V x = x
    · have hbb : (V x != (x : Int)) = false := by rw [e]; simp
      have HR : Hid ((x : Int) = ro v) := by
        show _ = _
        rw [← HX.out, HF.out.r1 x hx e]
      clear e hb
      go_wp2
      all_goals go_ret
      all_goals exact ⟨ret_int HR.out, V, HU.out, HF.out, HS.out, HO.out, HT.out⟩
    · have hbb : (V x != (x : Int)) = true := by simp [e]
      obtain ⟨y, hy⟩ : ∃ y : Nat, V x = y := ⟨(V x).toNat, by omega⟩
      have hyn : y < n := by omega
      have hyx : y < x := by omega
      have hb2 := HF.out.b y hyn
      obtain ⟨z, hz⟩ : ∃ z : Nat, V y = z := ⟨(V y).toNat, by omega⟩
      have hzx : z < x := by omega
      have hzn : z < n := by omega
      have HH := hide (HF.out.half x hx e)
      have HHs : Hid (∀ t, t < n → U t = ro t → up V x (V (V x).toNat) t = ro t) := fun t ht h1 => by
        have h2 := HS.out t ht h1
        by_cases e3 : t = x
        · subst e3; rw [up_eq, h2, HF.out.r0 t ht]
        · rw [up_ne _ _ _ _ e3]; exact h2
      have HHo : Hid (∀ t, n ≤ t → up V x (V (V x).toNat) t = U t) := fun t ht => by rw [up_ne _ _ _ _ (by omega)]; exact HO.out t ht
      have HXz : Hid (ro z = ro v) := by
        have h1 := HF.out.r2 x hx
        have h2 := HF.out.r2 y hyn
        rw [hy] at h1
        rw [hz] at h2
        simp only [Int.toNat_natCast] at h1 h2
        show _ = _
        rw [h2, h1]; exact HX.out
      rw [hy] at HH HHs HHo hc hbb
      simp only [Int.toNat_natCast] at HH HHs HHo
      rw [hz] at HH HHs HHo
      have hcy := HU.out.cell y (by omega)
      rw [hz] at hcy
      have hf := HU.out.fz x
      have HU2 := hide (HU.out.set x (z : Int))
      have hc2 : (wr.setCell ⟨b, x, none⟩ (.int .u64 (z : Int))).cell? ⟨b, x, none⟩ = some (.int .u64 (z : Int)) := by
        have := HU2.out.1.cell x (by omega)
        rw [up_eq] at this; exact this
      have HT2 : Hid (Ch (fun k => k = b) w (wr.setCell ⟨b, x, none⟩ (.int .u64 (z : Int)))) := HT.out.set _ _ (Or.inl rfl)
      clear hb hb2 e hy hz HX HS HF HT HO
      go_wp2
      all_goals exact ⟨⟨z, _, hzn, rfl, HXz, HU2.out.1, HH, HHs, HHo, HT2⟩, by simp [intOf]; omega⟩
set_option maxHeartbeats 4000000 in
theorem plant_any (n m b : Nat) (U : Nat → Int) (hnm : n ≤ m) (hn : n ≤ 10000) (w : World) (hU : GU w b m U) :
    Calls Tryz.prog 130 #[.slice (some ⟨b, 0, none⟩) n n] w fun e w' => (∃ x, e = .returned x) ∧ ∃ U', GU w' b m U' ∧ Fo n [] U' (fun v => (v : Int)) ∧ (∀ x, n ≤ x → U' x = U x) ∧ Ch (fun k => k = b) w w' := by
  have HU := hide hU
  clear hU
  go_enter Tryz.func130, Tryz.ntmps130
  go_wp2_with (fail)
  go_loopw [5] (fun t wr => ∃ (j : Nat) (V : Nat → Int), j ≤ n ∧ t = .int .i64 j ∧ Hid (GU wr b m V) ∧ Hid (∀ x, x < j → V x = x) ∧ Hid (∀ x, n ≤ x → V x = U x) ∧ Hid (Ch (fun k => k = b) w wr)) (fun t _ => n - (intOf t).toNat)
  case atStart => exact ⟨0, U, Nat.zero_le _, rfl, HU, fun x hx => by omega, fun _ _ => rfl, Ch.refl _ _⟩
  case round =>
    clear HU
    obtain ⟨j, V, hj, rfl, HG, HV, HO, HC⟩ := hrel
    by_cases cc : j < n
    · have hcc : (j : Int) < (n : Int) := by omega
      have hf := HG.out.fz j
      have hc := HG.out.cell j (by omega)
      have hwj : IntKind.u64.wrap (j : Int) = j := wu _ (by omega) (by omega)
      have HG1 : Hid (GU (wr.setCell ⟨b, j, none⟩ (.int .u64 (j : Int))) b m (up V j j)) := (HG.out.set j (j : Int)).1
      have HV1 : Hid (∀ x, x < j + 1 → up V j j x = x) := fun x hx => by
        by_cases e : x = j
        · subst e; exact up_eq _ _ _
        · rw [up_ne _ _ _ _ e]; exact HV.out x (by omega)
      have HO1 : Hid (∀ x, n ≤ x → up V j j x = U x) := fun x hx => by rw [up_ne _ _ _ _ (by omega)]; exact HO.out x hx
      have HC1 : Hid (Ch (fun k => k = b) w (wr.setCell ⟨b, j, none⟩ (.int .u64 (j : Int)))) := HC.out.set _ _ (Or.inl rfl)
      clear HG HV HO HC
      go_wp2
      all_goals exact ⟨⟨j + 1, _, cc, by go_num, HG1, HV1, HO1, HC1⟩, by simp [intOf]; omega⟩
    · have hjn : n = j := by omega
      subst hjn
      go_wp2
      go_end0
      exact ⟨⟨_, rfl⟩, V, HG.out, Fo.zero n V HV.out, HO.out, HC.out⟩
set_option maxHeartbeats 4000000 in
theorem join_any (n m b : Nat) (Q : List (Nat × Nat)) (U ro : Nat → Int) (hnm : n ≤ m) (hn : n ≤ 10000) (x y : Nat) (hx : x < n) (hy : y < n) (w : World) (hU : GU w b m U) (hF : Fo n Q U ro) :
    Calls Tryz.prog 132 #[.slice (some ⟨b, 0, none⟩) n n, .int .u64 (x : Int), .int .u64 (y : Int)] w fun e w' => (∃ v, e = .returned v) ∧ ∃ U' ro', GU w' b m U' ∧ Fo n (Q ++ [(x, y)]) U' ro' ∧ (∀ x, n ≤ x → U' x = U x) ∧ Ch (fun k => k = b) w w' := by
  have HR1 := hide (root47 n m b Q U ro hnm hn x hx w hU hF)
  clear hU hF
  go_enter Tryz.func132, Tryz.ntmps132
  go_wp2_with (fail)
  refine HR1.out.mono ?_
  rintro e1 w1 ⟨rfl, U1, hG1, hF1, _, hO1, hT1⟩
  have HR2 := hide (root47 n m b Q U1 ro hnm hn y hy w1 hG1 hF1)
  clear hG1 hF1
  have HT1 := hide hT1
  have HO1 := hide hO1
  clear hT1 hO1 HR1
  go_wp2_with (fail)
  refine HR2.out.mono ?_
  rintro e2 w2 ⟨rfl, U2, hG2, hF2, _, hO2, hT2⟩
  have hrx := hF2.r x hx
  have hry := hF2.r y hy
  obtain ⟨r', hB⟩ := hF2.both x y hx hy
  obtain ⟨p, hp⟩ : ∃ p : Nat, ro x = p := ⟨(ro x).toNat, by omega⟩
  obtain ⟨q, hq⟩ : ∃ q : Nat, ro y = q := ⟨(ro y).toNat, by omega⟩
  rw [hp, hq]
  rw [hp, hq] at hB
  have HF : Hid (∀ s t : Nat, s < n → Fo n (Q ++ [(x, y)]) (up U2 s t) r' → ∃ U' ro', GU (w2.setCell ⟨b, s, none⟩ (.int .u64 (t : Int))) b m U' ∧ Fo n (Q ++ [(x, y)]) U' ro' ∧ (∀ x, n ≤ x → U' x = U x) ∧ Ch (fun k => k = b) w (w2.setCell ⟨b, s, none⟩ (.int .u64 (t : Int)))) := fun s t hs h => ⟨_, r', (hG2.set s (t : Int)).1, h, fun z hz => by rw [up_ne _ _ _ _ (by omega), hO2 z hz]; exact HO1.out z hz, (HT1.out.trans hT2).set _ _ (Or.inl rfl)⟩
  by_cases hpq : p < q
  · have hB1 : Fo n (Q ++ [(x, y)]) (up U2 q p) r' := by
      rw [Int.max_eq_right (by omega), Int.min_eq_left (by omega)] at hB
      simpa using hB
    have HB := hide (HF.out q p (by omega) hB1)
    have hf := hG2.fz q
    have hc := hG2.cell q (by omega)
    have hqn : q < n := by omega
    have hl : (p : Int) < (q : Int) := by omega
    clear hG2 hF2 hO2 hT2 hB HT1 HO1 HR2 hrx hry hB1 HF
    go_wp2
    go_end0
    exact ⟨⟨_, rfl⟩, HB.out⟩
  · have hB1 : Fo n (Q ++ [(x, y)]) (up U2 p q) r' := by
      rw [Int.max_eq_left (by omega), Int.min_eq_right (by omega)] at hB
      simpa using hB
    have HB := hide (HF.out p q (by omega) hB1)
    have hf := hG2.fz p
    have hc := hG2.cell p (by omega)
    have hpn : p < n := by omega
    clear hG2 hF2 hO2 hT2 hB HT1 HO1 HR2 hrx hry hB1 HF
    by_cases he : p = q
    · subst he
      go_wp2
      go_end0
      exact ⟨⟨_, rfl⟩, HB.out⟩
    · have hl : (q : Int) < (p : Int) := by omega
      have hl2 : ¬ (p : Int) < (q : Int) := by omega
      go_wp2
      go_end0
      exact ⟨⟨_, rfl⟩, HB.out⟩
end Au
end Go.Proofs.YtgoigcpdfecfhaaGreatDoor
namespace Go.Proofs.YtgoigcpdfecfhaaGreatDoor
namespace Au
open Go.RowKit
set_option linter.unusedVariables false
set_option maxRecDepth 8000
/-- The ends of edges. -/
def prs (L : List T3) : List (Nat × Nat) := L.map fun e => (e.1, e.2.1)
theorem prs_app (L : List T3) (e : T3) : prs (L ++ [e]) = prs L ++ [(e.1, e.2.1)] := by simp [prs]
/-- The room as a forest. -/
def Rf (W : World) (rb n m : Nat) (Q : List (Nat × Nat)) (ro : Nat → Int) : Prop := ∃ U, GU W rb m U ∧ Fo n Q U ro ∧ ∀ x, n ≤ x → x < m → U x = 99
theorem Rf.of {W W' : World} {rb n m : Nat} {Q : List (Nat × Nat)} {ro : Nat → Int} (h : Rf W rb n m Q ro) (e : W'.heap[rb]? = W.heap[rb]?) : Rf W' rb n m Q ro := by
  obtain ⟨U, a, b, c⟩ := h
  exact ⟨U, a.of e, b, c⟩
theorem Rf.lt {W : World} {rb n m : Nat} {Q : List (Nat × Nat)} {ro : Nat → Int} (h : Rf W rb n m Q ro) : rb < W.heap.size := by
  obtain ⟨U, a, b, c⟩ := h
  exact a.lt
set_option maxHeartbeats 4000000 in
theorem see43 (n m rb fb : Nat) (Q : List (Nat × Nat)) (ro : Nat → Int) (x y z : Nat) (hx : x < n) (hy : y < n) (hnm : n ≤ m) (hn : n ≤ 10000) (w : World) (hR : Rf w rb n m Q ro) (hb : Boxed w fb 184 (.slice (some ⟨rb, 0, none⟩) n n)) :
    Calls Tryz.prog 131 #[eV x y z, .pointer (some ⟨fb, 0, none⟩)] w fun e w' => (∃ v, e = .returned v) ∧ (∃ ro', Rf w' rb n m (Q ++ [(x, y)]) ro') ∧ Ch (fun k => k = rb) w w' := by
  obtain ⟨U, hU, hF, hO⟩ := hR
  have c0 : (w.alloc (.cells #[.int .u32 x, .int .u32 y, .int .u32 z] 78)).cell? ⟨fb, 0, none⟩ = some (.slice (some ⟨rb, 0, none⟩) n n) := (hb.alloc _).cell
  have hwx : IntKind.u64.wrap (x : Int) = x := wu _ (by omega) (by omega)
  have hwy : IntKind.u64.wrap (y : Int) = y := wu _ (by omega) (by omega)
  have HJ := hide (join_any n m rb Q U ro hnm hn x y hx hy (w.alloc (.cells #[.int .u32 x, .int .u32 y, .int .u32 z] 78)) (hU.on (b1 _ _ _)) hF)
  have HO := hide hO
  clear hU hF hb hO
  go_enter Tryz.func131, Tryz.ntmps131
  go_wp2_with (fail)
  refine HJ.out.mono ?_
  rintro e1 w1 ⟨⟨v1, rfl⟩, U', ro', hG, hF, hO', hC⟩
  have HE : Hid ((∃ ro', Rf w1 rb n m (Q ++ [(x, y)]) ro') ∧ Ch (fun k => k = rb) w w1) := ⟨⟨ro', U', hG, hF, fun t h1 h2 => (hO' t h1).trans (HO.out t h1 h2)⟩, (Ch.of (b1 _ _ _)).trans hC⟩
  clear hG hF hO' hC HJ HO
  go_wp2
  go_end0
  exact ⟨⟨_, rfl⟩, HE.out⟩
abbrev S46 (sb fb rb sg v n sn sc : Nat) (s0 : Int) (w : World) : Prop := w.cell? ⟨sb, 0, none⟩ = some (.slice (some ⟨sg, 0, none⟩) sn sc) ∧ w.cell? ⟨fb, 0, none⟩ = some (.slice (some ⟨rb, 0, none⟩) n n) ∧ w.cell? ⟨sg, v * 8, none⟩ = some (.int .u64 s0)
set_option maxHeartbeats 4000000 in
theorem rule46 (n m rb fb sb sg sn sc : Nat) (Q : List (Nat × Nat)) (ro : Nat → Int) (S : Nat → Nat → Int) (v : Nat) (hv : v < n) (hs : n ≤ sn) (hnm : n ≤ m) (hn : n ≤ 10000) (w : World) (hR : Rf w rb n m Q ro) (hb : Boxed w fb 184 (.slice (some ⟨rb, 0, none⟩) n n)) (hsb : Boxed w sb 23 (.slice (some ⟨sg, 0, none⟩) sn sc)) (hS : SR w sg sn S) (h1 : fb ≠ rb) (h2 : sb ≠ rb) (h3 : sg ≠ rb) :
    Calls Tryz.prog 133 #[.int .u32 (v : Int), .pointer (some ⟨sb, 0, none⟩), .pointer (some ⟨fb, 0, none⟩)] w fun e w' => e = .returned (.bool (S v 0 != ro v)) ∧ Rf w' rb n m Q ro ∧ Ch (fun k => k = rb) w w' := by
  obtain ⟨U, hU, hF, hO⟩ := hR
  have hwv : IntKind.u64.wrap (v : Int) = v := wu _ (by omega) (by omega)
  have HS : Hid (S46 sb fb rb sg v n sn sc (S v 0) w.drew) := ⟨hsb.cell, hb.cell, hS.c v (by omega) 0 (by omega)⟩
  have HK : Hid (∀ w1, Ch (fun k => k = rb) w.drew w1 → S46 sb fb rb sg v n sn sc (S v 0) w1) := fun w1 hC => ⟨(hC.cell (p := ⟨sb, 0, none⟩) hsb.lt h2).trans hsb.cell, (hC.cell (p := ⟨fb, 0, none⟩) hb.lt h1).trans hb.cell, (hC.cell (p := ⟨sg, v * 8, none⟩) hS.lt h3).trans (hS.c v (by omega) 0 (by omega))⟩
  have HR := hide (root47 n m rb Q U ro hnm hn v hv w.drew (hU.of rfl) hF)
  have HO := hide hO
  clear hU hF hO hb hsb hS
  have hsn : v < sn := by omega
  go_enter Tryz.func133, Tryz.ntmps133
  go_wp2_with (fail)
  go_region_held3 (S46 sb fb rb sg v n sn sc (S v 0)) ((first | with_reducible exact HS.out | with_reducible exact HK.out _ HC3.out)) ((first | (go_at_call 134; refine HR.out.mono ?_; rintro e3 w3 ⟨rfl, U', hG, hF, _, hO', hC3⟩; have HC3 := hide hC3; have HG := hide (And.intro hG (And.intro hF hO')); clear hC3 hG hF hO')))
  have HE : Hid (Rf w3 rb n m Q ro ∧ Ch (fun k => k = rb) w w3) := ⟨⟨U', HG.out.1, HG.out.2.1, fun t h1 h2 => (HG.out.2.2 t h1).trans (HO.out t h1 h2)⟩, (Ch.drew (Ch.refl _ w)).trans HC3.out⟩
  clear HG HC3 HR HO HS HK
  go_wp2
  all_goals go_ret
  all_goals exact ⟨rfl, HE.out⟩
end Au
end Go.Proofs.YtgoigcpdfecfhaaGreatDoor
namespace Go.Proofs.YtgoigcpdfecfhaaGreatDoor
namespace Au
open Go.RowKit
set_option linter.unusedVariables false
set_option maxRecDepth 8000
theorem enters43 (A : Array Value) (W : World) : (callFunc 131 A).run Tryz.prog W = .ok (.enter 131 A) W := enters_of Tryz.func131 (by kernel_rfl) rfl A W
theorem enters46 (A : Array Value) (W : World) : (callFunc 133 A).run Tryz.prog W = .ok (.enter 133 A) W := enters_of Tryz.func133 (by kernel_rfl) rfl A W
theorem enters40 (A : Array Value) (W : World) : (callFunc 129 A).run Tryz.prog W = .ok (.enter 129 A) W := enters_of Tryz.func129 (by kernel_rfl) rfl A W
/-- What a look at labels ends with. -/
def RL (n m rb : Nat) (L : List T3) (f : Int) (S : Nat → Nat → Int) (E : Int) (o : Vd) (W : World) : Prop := E = fa n 0 L f ∧ (E = 0 → ∃ U ro, Fo n (prs L) U ro ∧ Lm (fun a b => b = 1 ∧ a < n ∧ (S a 0 != ro a) = true) o) ∧ ∃ Q ro, Rf W rb n m Q ro
set_option maxHeartbeats 4000000 in
theorem look40 (n m rb sb sg sn sc qb Bt Bf g : Nat) (L : List T3) (f : Int) (S : Nat → Nat → Int) (U0 : Nat → Int) (hs : n ≤ sn) (hnm : n ≤ m) (hn : n ≤ 10000) (hlen : L.length ≤ 140737488351232) (w : World)
    (hQ : Iq w qb n 0 (fe Bt Bf) (.slice (some ⟨sg, 0, none⟩) sn sc) none) (hG : GU w rb m U0) (hU0 : ∀ x, n ≤ x → x < m → U0 x = 99) (hF : Fd w g Bt Bf L f) (hsb : Boxed w sb 23 (.slice (some ⟨sg, 0, none⟩) sn sc)) (hS : SR w sg sn S)
    (r1 : rb ≠ g) (r2 : rb ≠ Bt) (r3 : rb ≠ Bf) (r4 : rb ≠ sb) (r5 : rb ≠ sg) (r6 : rb ≠ qb) (q1 : qb ≠ g) (q2 : qb ≠ Bt) (q3 : qb ≠ Bf) (q4 : qb ≠ sb) (q5 : qb ≠ sg) :
    Calls Tryz.prog 129 #[.pointer (some ⟨qb, 0, none⟩), .slice (some ⟨rb, 0, none⟩) n n, .pointer (some ⟨sb, 0, none⟩)] w fun e w' =>
      ∃ E o, e = .returned (.int .i64 E) ∧ Iq w' qb n 0 (fe Bt Bf) (.slice (some ⟨sg, 0, none⟩) sn sc) o ∧ RL n m rb L f S E o w' ∧ Ch (fun k => k = rb ∨ k = qb) w w' := by
  obtain ⟨fb, hfb⟩ : ∃ fb, fb = w.heap.size := ⟨_, rfl⟩
  obtain ⟨w0, hw0⟩ : ∃ w0, (w.alloc (.cells #[.slice (some ⟨rb, 0, none⟩) n n] 184)) = w0 := ⟨_, rfl⟩
  have hB0 : Below w.heap.size w w0 := by rw [← hw0]; exact b1 _ _ _
  have hbx : Boxed w0 fb 184 (.slice (some ⟨rb, 0, none⟩) n n) := by rw [← hw0, hfb]; exact Boxed.new w _ _
  have hGl := hG.lt
  have hFl := hF.lt
  have hQl := hQ.lt
  have hsl := hsb.lt
  have hSl := hS.lt
  have HP := hide (plant_any n m rb U0 hnm hn w0 (hG.on hB0))
  have hc0 : w0.cell? ⟨fb, 0, none⟩ = some (.slice (some ⟨rb, 0, none⟩) n n) := hbx.cell
  have HQ := hide (hQ.on (Ch.of (X := fun _ => False) hB0) (fun h => h))
  have HF := hide (hF.on (Ch.of (X := fun _ => False) hB0) (fun h => h) (fun h => h) (fun h => h))
  have HSB : Hid (Boxed w0 sb 23 (.slice (some ⟨sg, 0, none⟩) sn sc)) := (hB0.block sb hsl).trans hsb
  have HS := hide (hS.on (Ch.of (X := fun _ => False) hB0) (fun h => h))
  have HBX := hide hbx
  have HB0 := hide hB0
  have HU0 := hide hU0
  have HW0 := hide hw0
  rw [← hw0] at hc0
  clear hQ hG hF hsb hS hbx hB0 hU0 hw0
  subst hfb
  go_enter Tryz.func129, Tryz.ntmps129
  go_wp2_with (fail)
  rw [HW0.out]
  refine HP.out.mono ?_
  rintro e1 w1 ⟨⟨v1, rfl⟩, U1, hG1, hF1, hO1, hC1⟩
  have hbx1 : Boxed w1 w.heap.size 184 (.slice (some ⟨rb, 0, none⟩) n n) := (hC1.block w.heap.size HBX.out.lt (by omega)).trans HBX.out
  have hQ1 := HQ.out.on hC1 (by omega)
  have hFd1 := HF.out.on hC1 (by omega) (by omega) (by omega)
  have hR1 : Rf w1 rb n m (prs []) (fun v => (v : Int)) := ⟨U1, hG1, hF1, fun x h1 h2 => (hO1 x h1).trans (HU0.out x h1 h2)⟩
  have HSB1 : Hid (Boxed w1 sb 23 (.slice (some ⟨sg, 0, none⟩) sn sc)) := (hC1.block sb HSB.out.lt (by omega)).trans HSB.out
  have HS1 := hide (HS.out.on hC1 (by omega))
  have hRl := hR1.lt
  obtain ⟨fb, hfb⟩ : ∃ fb, fb = w.heap.size := ⟨_, rfl⟩
  rw [← hfb] at hbx1
  have hBl := hbx1.lt
  have hQl1 := hQ1.lt
  have HO := hide (over_any qb n g Bt Bf 131 0 (.slice (some ⟨sg, 0, none⟩) sn sc) #[.pointer (some ⟨fb, 0, none⟩)] L f (fun k => k = rb) (fun pre W => (∃ ro, Rf W rb n m (prs pre) ro) ∧ Iq W qb n 0 (fe Bt Bf) (.slice (some ⟨sg, 0, none⟩) sn sc) none ∧ Boxed W fb 184 (.slice (some ⟨rb, 0, none⟩) n n)) (by decide) hlen w1 enters43 hFd1 (by omega) (by omega) (by omega) (fun k hk => by omega)
    (fun pre W h => ⟨none, h.2.1⟩)
    (fun pre W W' h hk => by
      obtain ⟨⟨ro, a⟩, b, c⟩ := h
      exact ⟨⟨ro, a.of (hk rb hRl)⟩, (hk qb hQl1).trans b, (hk fb hBl).trans c⟩)
    (fun pre e W hp hbad h hsz => by
      obtain ⟨⟨ro, a⟩, b, c⟩ := h
      obtain ⟨hx, hy, _⟩ := bad_ok hbad
      refine (see43 n m rb fb (prs pre) ro e.1 e.2.1 e.2.2 hx hy hnm hn W a c).mono ?_
      rintro e2 w2 ⟨hv, hro, hC⟩
      refine ⟨hv, ⟨by rw [prs_app]; exact hro, b.on hC (by omega), (hC.block fb c.lt (by omega)).trans c⟩, hC⟩)
    ⟨⟨_, hR1⟩, hQ1, hbx1⟩)
  have HC1 : Hid (Ch (fun k => k = rb ∨ k = qb) w w1) := (Ch.of HB0.out).trans (hC1.mono (fun k _ h => Or.inl h))
  clear hG1 hF1 hO1 hC1 hbx1 hQ1 hFd1 hR1 HP HQ HF HSB HS HBX HB0 HU0 HW0
  go_wp2_with (fail)
  rw [← hfb]
  refine HO.out.mono ?_
  rintro e2 w2 ⟨E, rfl, hE, hC2, hJ⟩
  obtain ⟨Q, ro, hEQ, hR2, hQ2, hbx2⟩ : ∃ Q ro, (E = 0 → Q = prs L) ∧ Rf w2 rb n m Q ro ∧ Iq w2 qb n 0 (fe Bt Bf) (.slice (some ⟨sg, 0, none⟩) sn sc) none ∧ Boxed w2 fb 184 (.slice (some ⟨rb, 0, none⟩) n n) := by
    rcases hJ with ⟨h0, ⟨ro, a⟩, b, c⟩ | ⟨h0, pre, ⟨ro, a⟩, b, c⟩
    · exact ⟨_, ro, fun _ => rfl, a, b, c⟩
    · exact ⟨_, ro, fun h => absurd h h0, a, b, c⟩
  have hSB2 : Boxed w2 sb 23 (.slice (some ⟨sg, 0, none⟩) sn sc) := (hC2.block sb HSB1.out.lt (by omega)).trans HSB1.out
  have hS2 := HS1.out.on hC2 (by omega)
  have HR := hide (rule_any qb n 1 133 0 (fe Bt Bf) (.slice (some ⟨sg, 0, none⟩) sn sc) none #[.pointer (some ⟨sb, 0, none⟩), .pointer (some ⟨fb, 0, none⟩)] (fun v => S v 0 != ro v) (fun _ _ => False) (fun k => k = rb) (fun W => Rf W rb n m Q ro ∧ Boxed W fb 184 (.slice (some ⟨rb, 0, none⟩) n n) ∧ Boxed W sb 23 (.slice (some ⟨sg, 0, none⟩) sn sc) ∧ SR W sg sn S) (by omega) w2 enters46 hQ2 ⟨hR2, hbx2, hSB2, hS2⟩ (by omega)
    (fun W W' h hC => by
      obtain ⟨a, b, c, d⟩ := h
      exact ⟨a.of (hC.block rb a.lt (by omega)), (hC.block fb b.lt (by omega)).trans b, (hC.block sb c.lt (by omega)).trans c, d.on hC (by omega)⟩)
    (fun _ _ h => h)
    (fun v W hv h hI => by
      obtain ⟨a, b, c, d⟩ := h
      refine (rule46 n m rb fb sb sg sn sc Q ro S v hv hs hnm hn W a b c d (by omega) (by omega) (by omega)).mono ?_
      rintro e3 w3 ⟨rfl, hR3, hC3⟩
      exact ⟨rfl, ⟨hR3, (hC3.block fb b.lt (by omega)).trans b, (hC3.block sb c.lt (by omega)).trans c, d.on hC3 (by omega)⟩, hC3⟩))
  have HFo : Hid (E = 0 → ∃ U ro', Fo n (prs L) U ro' ∧ ro' = ro) := fun h0 => by
    obtain ⟨U, a, b, c⟩ := hR2
    rw [hEQ h0] at b
    exact ⟨U, ro, b, rfl⟩
  have HC2 : Hid (Ch (fun k => k = rb ∨ k = qb) w w2) := HC1.out.trans (hC2.mono (fun k _ h => Or.inl h))
  have HE := hide hE
  clear hE hC2 hJ hR2 hQ2 hbx2 hSB2 hS2 HO HC1 HSB1 HS1 hEQ
  go_wp2_with (fail)
  rw [← hfb]
  refine HR.out.mono ?_
  rintro e3 w3 ⟨⟨v3, rfl⟩, o', hL, hI3, hJ3, hC3⟩
  have HEnd : Hid (Iq w3 qb n 0 (fe Bt Bf) (.slice (some ⟨sg, 0, none⟩) sn sc) o' ∧ RL n m rb L f S E o' w3 ∧ Ch (fun k => k = rb ∨ k = qb) w w3) := ⟨hI3, ⟨HE.out, fun h0 => by
    obtain ⟨U, ro', a, b⟩ := HFo.out h0
    subst b
    exact ⟨U, ro', a, hL.ext (fun v r => by simp)⟩, Q, ro, hJ3.1⟩, HC2.out.trans hC3⟩
  clear hL hI3 hJ3 hC3 HR HFo HC2 HE
  go_wp2
  all_goals go_ret
  all_goals exact ⟨E, o', rfl, HEnd.out⟩
end Au
end Go.Proofs.YtgoigcpdfecfhaaGreatDoor
namespace Go.Proofs.YtgoigcpdfecfhaaGreatDoor
namespace Au
open Go.RowKit
set_option linter.unusedVariables false
set_option maxRecDepth 8000
/-- Only of the room, behind what is asked for, is known that it is as it was. -/
def Sp (W : World) (rb need rl : Nat) : Prop := ∃ U, GU W rb rl U ∧ ∀ x, need ≤ x → x < rl → U x = 99
theorem Sp.of {W W' : World} {rb need rl : Nat} (h : Sp W rb need rl) (e : W'.heap[rb]? = W.heap[rb]?) : Sp W' rb need rl := by
  obtain ⟨U, a, b⟩ := h
  exact ⟨U, a.of e, b⟩
theorem Sp.lt {W : World} {rb need rl : Nat} (h : Sp W rb need rl) : rb < W.heap.size := by
  obtain ⟨U, a, b⟩ := h
  exact a.lt
theorem Sp.cell {W : World} {rb need rl : Nat} (h : Sp W rb need rl) (j : Nat) (h1 : need ≤ j) (h2 : j < rl) : W.cell? ⟨rb, j, none⟩ = some (.int .u64 99) := by
  obtain ⟨U, a, b⟩ := h
  rw [a.cell j h2, b j h1 h2]
theorem dk_ne {made : Int} {n sn rl p : Nat} {kd : Int} {L : List T3} {f : Int} (h : ak made n sn rl p ≠ 0) : dk made n sn rl p kd L f = ak made n sn rl p := by unfold dk; rw [if_pos h]
theorem dk_eq {made : Int} {n sn rl p : Nat} {kd : Int} {L : List T3} {f : Int} (h : ak made n sn rl p = 0) : dk made n sn rl p kd L f = fa n kd L f := by unfold dk; rw [if_neg (by simpa using h)]
theorem ak_zero {made : Int} {n sn rl p : Nat} (h : ak made n sn rl p = 0) : made = 0 ∧ sn = n ∧ p * n ≤ rl := by
  unfold ak at h
  split at h
  · exact absurd h (by assumption)
  · rename_i h1
    split at h
    · cases h
    · rename_i h2
      split at h
      · cases h
      · exact ⟨by simpa using h1, by simpa using h2, by omega⟩
/-- What is told of labels. -/
def AL (n : Nat) (L : List T3) (S : Nat → Nat → Int) (o : Vd) : Prop := ∃ U ro, Fo n (prs L) U ro ∧ Lm (fun a b => b = 1 ∧ a < n ∧ (S a 0 != ro a) = true) o
theorem judge40 (n rl rb sb sg sn sc Bt Bf g : Nat) (made : Int) (L : List T3) (f : Int) (S : Nat → Nat → Int) (U0 : Nat → Int) (hn : n < 4294967296) (hsn : sn ≤ 140737488351232) (hr : rl ≤ 5000) (hlen : L.length ≤ 140737488351232) (w : World)
    (hG : GU w rb rl U0) (hU0 : ∀ x, n ≤ x → x < rl → U0 x = 99) (hF : Fd w g Bt Bf L f) (hsb : Boxed w sb 23 (.slice (some ⟨sg, 0, none⟩) sn sc)) (hS : SR w sg sn S)
    (r1 : rb ≠ g) (r2 : rb ≠ Bt) (r3 : rb ≠ Bf) (r4 : rb ≠ sb) (r5 : rb ≠ sg) :
    Calls Tryz.prog 31 #[.agg #[.int .u32 (n : Int), .int .i64 0, fe Bt Bf, .slice (some ⟨sg, 0, none⟩) sn sc, .bool false, .int .u32 0, .int .i64 0], .int .i64 made, .slice (some ⟨rb, 0, none⟩) rl rl, .int .i64 1, .func (.func 129) #[] #[.pointer (some ⟨sb, 0, none⟩)]] w fun e w' =>
      ∃ E o, e = .returned (.tuple #[.agg (vx E o), .int .i64 E]) ∧ E = dk made n sn rl 1 0 L f ∧ (E = 0 → AL n L S o) ∧ Sp w' rb n rl ∧ Ch (fun k => k = rb) w w' := by
  have hGl := hG.lt
  have hFl := hF.lt
  have hsl := hsb.lt
  have hSl := hS.lt
  by_cases hm : ak made n sn rl 1 = 0
  · obtain ⟨h1, h2, h3⟩ := ak_zero hm
    rw [Nat.one_mul] at h3
    have hB : Below w.heap.size w ((w.alloc (.cells (qc n 0 (fe Bt Bf) (.slice (some ⟨sg, 0, none⟩) sn sc) none) 69)).alloc (.cells z3 35)) := bA (b1 _ _ _) (by simp) _
    have hq : Iq ((w.alloc (.cells (qc n 0 (fe Bt Bf) (.slice (some ⟨sg, 0, none⟩) sn sc) none) 69)).alloc (.cells z3 35)) w.heap.size n 0 (fe Bt Bf) (.slice (some ⟨sg, 0, none⟩) sn sc) none := keep _ (at0 _ _)
    have hl := look40 n rl rb sb sg sn sc w.heap.size Bt Bf g L f S U0 (by omega) h3 (by omega) hlen _ hq (hG.on hB) hU0 (hF.on (X := fun _ => False) (Ch.of hB) (fun h => h) (fun h => h) (fun h => h)) ((hB.block sb hsl).trans hsb) (hS.on (X := fun _ => False) (Ch.of hB) (fun h => h)) r1 r2 r3 r4 r5 (by omega) (by omega) (by omega) (by omega) (by omega) (by omega)
    have hj := judge_ok n 1 rl sn sc 129 rb Bt Bf made 0 (some ⟨sg, 0, none⟩) #[.pointer (some ⟨sb, 0, none⟩)] (fun k => k = rb ∨ k = w.heap.size) (RL n rl rb L f S) (by omega) hn hsn hr hm w enters40 (by omega)
      (fun E o W W' h hk => ⟨h.1, h.2.1, by obtain ⟨Q, ro, hh⟩ := h.2.2; exact ⟨Q, ro, hh.of (hk rb hGl)⟩⟩) (by rw [Nat.one_mul]; exact hl)
    refine hj.mono ?_
    rintro e w' ⟨E, o, rfl, ⟨a, b, Q, ro, U, c, d, e⟩, hC⟩
    refine ⟨E, o, rfl, by rw [dk_eq hm]; exact a, b, ⟨U, c, e⟩, hC.mono (fun k hk h => by rcases h with h | h; exact h; omega)⟩
  · refine (judge_bad n 1 rl sn sc 129 rb Bt Bf made 0 (some ⟨sg, 0, none⟩) #[.pointer (some ⟨sb, 0, none⟩)] (by omega) hn hsn hr hm w).mono ?_
    rintro e w' ⟨rfl, hB⟩
    refine ⟨_, none, by unfold vx; rw [if_neg hm], (dk_ne hm).symm, fun h => absurd h hm, ⟨U0, hG.on hB, hU0⟩, Ch.of hB⟩
theorem vx_shape (E : Int) (o : Vd) : ∃ b x y, vx E o = #[.bool b, .int .u32 x, .int .i64 y] ∧ (E = 0 → b = vR o ∧ x = vV o ∧ y = vK o) ∧ (E ≠ 0 → b = false ∧ x = 0 ∧ y = 0) := by
  unfold vx
  by_cases h : E = 0
  · rw [if_pos h]; exact ⟨_, _, _, rfl, fun _ => ⟨rfl, rfl, rfl⟩, fun h' => absurd h h'⟩
  · rw [if_neg h]; exact ⟨_, _, _, rfl, fun h' => absurd h' h, fun _ => ⟨rfl, rfl, rfl⟩⟩
theorem res11 (T : Array Value) (b : Nat) (a c d : Value) (W : World) (h10 : T[8]? = some (.pointer (some ⟨b, 0, none⟩))) {E : Int} (h11 : T[9]? = some (.int .i64 E)) (h : W.heap[b]? = some (.cells #[a, c, d] 35 (0, 0))) :
    (results Tryz.f77 T).run Tryz.prog W = .ok (.tuple #[.agg #[a, c, d], .int .i64 E]) W := by
  have h0 : W.cell? ⟨b, 0, none⟩ = some a := (cell_of_row _ _ _ _ _ _ h).trans rfl
  have h1 : W.cell? ⟨b, 1, none⟩ = some c := (cell_of_row _ _ _ _ _ _ h).trans rfl
  have h2 : W.cell? ⟨b, 2, none⟩ = some d := (cell_of_row _ _ _ _ _ _ h).trans rfl
  simp [results, Tryz.f77, go_sem, h10, h11, h0, h1, h2]
/-- What an audit hands back, and its frame. -/
def Au3 (e : Ending) (E : Int) (o : Vd) : Prop := e = .returned (.tuple #[.agg (vx E o), .int .i64 E])
abbrev S11 (b n : Nat) (kd : Int) (ed sl : Value) (w : World) : Prop := w.cell? ⟨b, 0, none⟩ = some (.int .u32 (n : Int)) ∧ w.cell? ⟨b, 1, none⟩ = some (.int .i64 kd) ∧ w.cell? ⟨b, 2, none⟩ = some ed ∧ w.cell? ⟨b, 3, none⟩ = some sl ∧ w.cell? ⟨b, 4, none⟩ = some (.bool false) ∧ w.cell? ⟨b, 5, none⟩ = some (.int .u32 0) ∧ w.cell? ⟨b, 6, none⟩ = some (.int .i64 0)
theorem S11.mk {b n : Nat} {kd : Int} {ed sl : Value} {w : World} (h : w.heap[b]? = some (.cells #[.int .u32 (n : Int), .int .i64 kd, ed, sl, .bool false, .int .u32 0, .int .i64 0] 69 (0, 0))) : S11 b n kd ed sl w :=
  ⟨(cell_of_row _ _ _ _ _ _ h).trans rfl, (cell_of_row _ _ _ _ _ _ h).trans rfl, (cell_of_row _ _ _ _ _ _ h).trans rfl, (cell_of_row _ _ _ _ _ _ h).trans rfl, (cell_of_row _ _ _ _ _ _ h).trans rfl, (cell_of_row _ _ _ _ _ _ h).trans rfl, (cell_of_row _ _ _ _ _ _ h).trans rfl⟩
set_option maxHeartbeats 4000000 in
theorem labels_any (n rl rb sg sn sc Bt Bf g : Nat) (L : List T3) (f : Int) (S : Nat → Nat → Int) (U0 : Nat → Int) (hn : n < 4294967296) (hsn : sn ≤ 140737488351232) (hr : rl ≤ 5000) (hlen : L.length ≤ 140737488351232) (w : World)
    (hG : GU w rb rl U0) (hU0 : ∀ x, n ≤ x → x < rl → U0 x = 99) (hF : Fd w g Bt Bf L f) (hS : SR w sg sn S)
    (r1 : rb ≠ g) (r2 : rb ≠ Bt) (r3 : rb ≠ Bf) (r5 : rb ≠ sg) :
    Calls Tryz.prog 77 #[.int .u32 (n : Int), fe Bt Bf, .slice (some ⟨sg, 0, none⟩) sn sc, .slice (some ⟨rb, 0, none⟩) rl rl] w fun e w' =>
      ∃ E o, e = .returned (.tuple #[.agg (vx E o), .int .i64 E]) ∧ E = dk (sz n) n sn rl 1 0 L f ∧ (E = 0 → AL n L S o) ∧ Sp w' rb n rl ∧ Ch (fun k => k = rb) w w' := by
  have hGl := hG.lt
  obtain ⟨wJ, hwJ⟩ : ∃ wJ, (((w.alloc (.cells #[.slice (some ⟨sg, 0, none⟩) sn sc] 23)).alloc (.cells z3 35)).alloc (.cells #[.int .u32 (n : Int), .int .i64 0, fe Bt Bf, .slice (some ⟨sg, 0, none⟩) sn sc, .bool false, .int .u32 0, .int .i64 0] 69)) = wJ := ⟨_, rfl⟩
  have hB : Below w.heap.size w wJ := by rw [← hwJ]; exact bA (bA (b1 _ _ _) (by simp) _) (by simp only [World.size_alloc]; omega) _
  have hsz : wJ.heap.size = w.heap.size + 3 := by rw [← hwJ]; simp
  have hsb : Boxed wJ w.heap.size 23 (.slice (some ⟨sg, 0, none⟩) sn sc) := by rw [← hwJ]; exact ((Boxed.new w _ _).alloc _).alloc _
  have hz : wJ.heap[w.heap.size + 1]? = some (.cells z3 35 (0, 0)) := by
    rw [← hwJ]
    refine keep _ ?_
    have := at0 (w.alloc (.cells #[.slice (some ⟨sg, 0, none⟩) sn sc] 23)) (.cells z3 35)
    simpa using this
  have HJ : Hid (Calls Tryz.prog 31 #[.agg #[.int .u32 (n : Int), .int .i64 0, fe Bt Bf, .slice (some ⟨sg, 0, none⟩) sn sc, .bool false, .int .u32 0, .int .i64 0], .int .i64 (sz n), .slice (some ⟨rb, 0, none⟩) rl rl, .int .i64 1, .func (.func 129) #[] #[.pointer (some ⟨w.heap.size, 0, none⟩)]] wJ.drew fun e w' =>
      ∃ E o, e = .returned (.tuple #[.agg (vx E o), .int .i64 E]) ∧ E = dk (sz n) n sn rl 1 0 L f ∧ (E = 0 → AL n L S o) ∧ Sp w' rb n rl ∧ Ch (fun k => k = rb) wJ.drew w') :=
    judge40 n rl rb w.heap.size sg sn sc Bt Bf g (sz n) L f S U0 hn hsn hr hlen wJ.drew ((hG.on hB).of rfl) hU0 ((hF.on (X := fun _ => False) (Ch.of hB) (fun h => h) (fun h => h) (fun h => h)).of rfl rfl rfl) hsb ((hS.on (X := fun _ => False) (Ch.of hB) (fun h => h)).of rfl) r1 r2 r3 (by omega) r5
  have hq : wJ.heap[w.heap.size + 1 + 1]? = some (.cells #[.int .u32 (n : Int), .int .i64 0, fe Bt Bf, .slice (some ⟨sg, 0, none⟩) sn sc, .bool false, .int .u32 0, .int .i64 0] 69 (0, 0)) := by
    rw [← hwJ]
    have := at0 ((w.alloc (.cells #[.slice (some ⟨sg, 0, none⟩) sn sc] 23)).alloc (.cells z3 35)) (.cells #[.int .u32 (n : Int), .int .i64 0, fe Bt Bf, .slice (some ⟨sg, 0, none⟩) sn sc, .bool false, .int .u32 0, .int .i64 0] 69)
    simpa using this
  have HS : Hid (S11 (w.heap.size + 1 + 1) n 0 (fe Bt Bf) (.slice (some ⟨sg, 0, none⟩) sn sc) wJ.drew) := S11.mk hq
  have HK : Hid (∀ w3, Ch (fun k => k = rb) wJ.drew w3 → S11 (w.heap.size + 1 + 1) n 0 (fe Bt Bf) (.slice (some ⟨sg, 0, none⟩) sn sc) w3) := fun w3 hC => S11.mk ((hC.block (w.heap.size + 1 + 1) (by show _ < wJ.heap.size; omega) (by omega)).trans hq)
  have HK2 : Hid (∀ w3, Ch (fun k => k = rb) wJ.drew w3 → ∀ a b c, S11 (w.heap.size + 1 + 1) n 0 (fe Bt Bf) (.slice (some ⟨sg, 0, none⟩) sn sc) (((w3.setCell ⟨w.heap.size + 1, 0, none⟩ a).setCell ⟨w.heap.size + 1, 1, none⟩ b).setCell ⟨w.heap.size + 1, 2, none⟩ c)) := fun w3 hC a b c => S11.mk ((Below.heap_setCell _ _ _ _ (by simp)).trans ((Below.heap_setCell _ _ _ _ (by simp)).trans ((Below.heap_setCell _ _ _ _ (by simp)).trans ((hC.block (w.heap.size + 1 + 1) (by show _ < wJ.heap.size; omega) (by omega)).trans hq))))
  have HFin : Hid (∀ E o w3, Ch (fun k => k = rb) wJ.drew w3 → E = dk (sz n) n sn rl 1 0 L f ∧ (E = 0 → AL n L S o) ∧ Sp w3 rb n rl → ∀ a b c, (((w3.setCell ⟨w.heap.size + 1, 0, none⟩ a).setCell ⟨w.heap.size + 1, 1, none⟩ b).setCell ⟨w.heap.size + 1, 2, none⟩ c).heap[w.heap.size + 1]? = some (.cells #[a, b, c] 35 (0, 0)) ∧ E = dk (sz n) n sn rl 1 0 L f ∧ (E = 0 → AL n L S o) ∧ Sp (((w3.setCell ⟨w.heap.size + 1, 0, none⟩ a).setCell ⟨w.heap.size + 1, 1, none⟩ b).setCell ⟨w.heap.size + 1, 2, none⟩ c) rb n rl ∧ Ch (fun k => k = rb) w (((w3.setCell ⟨w.heap.size + 1, 0, none⟩ a).setCell ⟨w.heap.size + 1, 1, none⟩ b).setCell ⟨w.heap.size + 1, 2, none⟩ c)) := fun E o w3 hC h a b c => by
    have hz3 : w3.heap[w.heap.size + 1]? = some (.cells z3 35 (0, 0)) := (hC.block (w.heap.size + 1) (by show _ < wJ.heap.size; omega) (by omega)).trans hz
    have hC1 : Ch (fun k => k = rb) w w3 := ((Ch.of hB).drew).trans hC
    rw [sets3 hz3 rfl]
    exact ⟨setRow_heap _ _ _ _ _ _ hz3, h.1, h.2.1, h.2.2.of (setRow_other _ _ _ _ (by omega)), hC1.row _ (Or.inr (by omega))⟩
  have HZ := hide (sized_any n)
  have HB := hide hB
  have Hz : Hid (∀ w3, Ch (fun k => k = rb) wJ.drew w3 → w3.heap[w.heap.size + 1]? = some (.cells z3 35 (0, 0))) := fun w3 hC => (hC.block (w.heap.size + 1) (by show _ < wJ.heap.size; omega) (by omega)).trans hz
  have HwJ := hide hwJ
  clear hG hU0 hF hS hB hz hsb hsz hwJ hq
  go_enter Tryz.func77, Tryz.ntmps77
  go_wp2_with (fail)
  rw [HwJ.out]
  go_region_held3 (S11 (w.heap.size + 1 + 1) n 0 (fe Bt Bf) (.slice (some ⟨sg, 0, none⟩) sn sc)) ((first | with_reducible exact HS.out | with_reducible exact HK.out _ HC3.out | with_reducible exact HK2.out _ HC3.out _ _ _)) ((first | (go_at_call 128; refine (HZ.out _).mono ?_; rintro e1 w1 ⟨rfl, rfl⟩) | (go_at_call 31; refine HJ.out.mono ?_; rintro e3 w3 ⟨E, o, rfl, h1, h2, h3, hC3⟩; obtain ⟨b0, x0, y0, hv, _, _⟩ := vx_shape E o; have HV := hide hv; rw [hv]; clear hv; have hz3 := Hz.out _ hC3; have f0 : w3.frozen? ⟨w.heap.size + 1, 0, none⟩ = false := frozen_of_row _ _ _ _ _ hz3; have f1 : w3.frozen? ⟨w.heap.size + 1, 1, none⟩ = false := frozen_of_row _ _ _ _ _ hz3; have f2 : w3.frozen? ⟨w.heap.size + 1, 2, none⟩ = false := frozen_of_row _ _ _ _ _ hz3; have g0 : w3.cell? ⟨w.heap.size + 1, 0, none⟩ = some (.bool false) := (cell_of_row _ _ _ _ _ _ hz3).trans rfl; have g1 : w3.cell? ⟨w.heap.size + 1, 1, none⟩ = some (.int .u32 0) := (cell_of_row _ _ _ _ _ _ hz3).trans rfl; have g2 : w3.cell? ⟨w.heap.size + 1, 2, none⟩ = some (.int .i64 0) := (cell_of_row _ _ _ _ _ _ hz3).trans rfl; have HC3 := hide hC3; have Hz3 := hide hz3; have HH := hide (And.intro h1 (And.intro h2 h3)); clear hC3 hz3 h1 h2 h3)))
  all_goals have HE := hide (HFin.out E o w3 HC3.out HH.out (.bool b0) (.int .u32 x0) (.int .i64 y0))
  all_goals clear HFin HH HC3 Hz3 HK HK2 HS HJ HZ HB Hz HwJ
  all_goals go_wp2
  all_goals (refine bodyPost_ret (v := .tuple #[.agg #[.bool b0, .int .u32 x0, .int .i64 y0], .int .i64 E]) ?_ rfl ?_)
  all_goals first | exact res11 _ _ _ _ _ _ rfl rfl HE.out.1 | exact ⟨E, o, by rw [HV.out], HE.out.2⟩
end Au
end Go.Proofs.YtgoigcpdfecfhaaGreatDoor
namespace Go.Proofs.YtgoigcpdfecfhaaGreatDoor
namespace Au
open Go.RowKit
set_option linter.unusedVariables false
set_option maxRecDepth 8000
theorem make_u32 (w : World) (n : Nat) (hn : n ≤ 1000000) : (Instr.makeSlice 32 (.int .u32 (n : Int)) (.int .u32 (n : Int))).run Tryz.prog w = .ok (.slice (some ⟨w.heap.size, 0, none⟩) n n) (w.alloc (.cells (madeCells #[.int .u64 0] n) 28)) := by
  have h := infoW
  cases hh : Tryz.prog.info? 28 with
  | none => rw [hh] at h; cases h
  | some i =>
    rw [hh] at h
    simp at h
    have hr := run_make (P := Tryz.prog) w 32 28 i (.int .u64 0) Tryz.underlying32 hh h.1 .u32 .u32 n n (by omega) (by omega) (by rw [h.2.2]; omega) (by omega)
    rw [h.2.1] at hr
    simp only [Int.toNat_natCast, Nat.mul_one] at hr
    rw [hr]
    rfl
theorem take_succ {L : List T3} {i : Nat} {e : T3} (h : L[i]? = some e) : L.take (i + 1) = L.take i ++ [e] := by rw [List.take_add_one, h]; rfl
set_option maxHeartbeats 4000000 in
theorem rwcc_any (n m c : Nat) (a : Option Addr) (L : List T3) (hm1 : m = L.length) (hn : n ≤ 5000) (hm : m ≤ 140737488351232) (w : World) (hE : Row3 .u32 w a L) (hI : ∀ e ∈ L, e.1 < n ∧ e.2.1 < n) :
    Calls Tryz.prog 90 #[.int .u32 (n : Int), .slice a m c] w fun e w' => e = .returned (.slice (some ⟨w.heap.size, 0, none⟩) n n) ∧ ∃ U ro, Fo n (prs L) U ro ∧ GU w' w.heap.size n ro ∧ Below w.heap.size w w' := by
  subst hm1
  have HE := hide hE
  have HI := hide hI
  have hmk := make_u32 w n (by omega)
  have HG0 := hide (GU.new w n)
  have HB0 : Hid (Below w.heap.size w (w.alloc (.cells (madeCells #[.int .u64 0] n) 28))) := b1 _ _ _
  generalize madeCells #[.int .u64 0] n = mc at *
  clear hE hI
  go_enter Tryz.func90, Tryz.ntmps90
  go_wp2_with (fail)
  clear hmk
  generalize w.alloc (.cells mc 28) = w0 at *
  go_loopw [6] (fun v wr => ∃ j : Nat, j ≤ n ∧ v = .int .i64 j ∧ Hid (GU wr w.heap.size n (fun v => if v < j then (v : Int) else 0)) ∧ Hid (Below w.heap.size w wr)) (fun v _ => n - (intOf v).toNat)
  case atStart => exact ⟨0, Nat.zero_le _, rfl, by simpa using HG0, HB0⟩
  case round =>
    clear HG0 HB0
    obtain ⟨j, hj, rfl, HG, HB⟩ := hrel
    by_cases cc : j < n
    · have hf := HG.out.fz j
      have hc := HG.out.cell j cc
      have hwj : IntKind.u64.wrap (j : Int) = j := wu _ (by omega) (by omega)
      have HG1 := hide (HG.out.set j (j : Int))
      have HG2 : Hid (GU (wr.setCell ⟨w.heap.size, j, none⟩ (.int .u64 (j : Int))) w.heap.size n (fun v => if v < j + 1 then (v : Int) else 0)) := HG1.out.1.ext (fun v hv => by
        by_cases e : v = j
        · subst e; rw [up_eq, if_pos (by omega)]
        · rw [up_ne _ _ _ _ e]
          by_cases e2 : v < j
          · rw [if_pos e2, if_pos (by omega)]
          · rw [if_neg e2, if_neg (by omega)])
      have HB2 : Hid (Below w.heap.size w (wr.setCell ⟨w.heap.size, j, none⟩ (.int .u64 (j : Int)))) := by
        obtain ⟨C1, h1⟩ := HG1.out.2
        show Below _ _ _
        rw [h1]
        exact below_setRow HB.out (Nat.le_refl _) _
      clear HG1
      go_wp2
      exact ⟨⟨j + 1, cc, by go_num, HG2, HB2⟩, by simp [intOf]; omega⟩
    · have hjn : n = j := by omega
      subst hjn
      have HG1 : Hid (GU wr w.heap.size n (fun v => (v : Int))) := HG.out.ext (fun v hv => if_pos hv)
      have HF1 : Hid (Fo n (prs (L.take 0)) (fun v => (v : Int)) (fun v => (v : Int))) := Fo.zero n _ (fun v hv => rfl)
      have HB1 := HB
      clear HG HB cc hj
      go_wp2_with (fail)
      go_loopw [7] (fun v wr => ∃ (i : Nat) (U ro : Nat → Int), i ≤ L.length ∧ v = .int .i64 i ∧ Hid (GU wr w.heap.size n U) ∧ Hid (Fo n (prs (L.take i)) U ro) ∧ Hid (Below w.heap.size w wr)) (fun v _ => L.length - (intOf v).toNat)
      case atStart => exact ⟨0, _, _, Nat.zero_le _, rfl, HG1, HF1, HB1⟩
      case round =>
        clear HG1 HF1 HB1
        obtain ⟨i, U, ro, hi, rfl, HG, HF, HB⟩ := hrel
        by_cases cc : i < L.length
        · obtain ⟨eb, rfl, heb, hce⟩ := HE.out (by omega)
          obtain ⟨⟨x, y, z⟩, hxyz⟩ : ∃ e, L[i]? = some e := ⟨L[i]'(by omega), List.getElem?_eq_getElem (by omega)⟩
          obtain ⟨hxn, hyn⟩ := HI.out _ (List.mem_of_getElem? hxyz)
          simp only at hxn hyn
          obtain ⟨c1, c2, _⟩ := cells3 (hce i _ hxyz)
          simp only at c1 c2
          have d1 := (HB.out.cell (p := eb.add (i * 3)) (by rw [add_block]; exact heb)).trans c1
          have HC2 := hide c2
          have HEB := hide heb
          have hwx : IntKind.u64.wrap (x : Int) = x := wu _ (by omega) (by omega)
          have hwy : IntKind.u64.wrap (y : Int) = y := wu _ (by omega) (by omega)
          have HTk : Hid (prs (L.take (i + 1)) = prs (L.take i) ++ [(x, y)]) := by
            show _ = _
            rw [take_succ hxyz, prs_app]
          have HX := hide hxn
          have HY := hide hyn
          have HCC := hide cc
          have HR1 := hide (root54 n n w.heap.size (prs (L.take i)) U ro (Nat.le_refl _) (by omega) x hxn wr HG.out HF.out)
          have HZ := hide HG.out.lt
          clear c1 c2 hce heb hxyz hi
          go_wp2_with (fail)
          refine HR1.out.mono ?_
          rintro e1 w1 ⟨rfl, U1, hG1, hF1, _, _, hT1⟩
          have HG1 := hide hG1
          have HF1 := hide hF1
          have HB1 : Hid (Below w.heap.size w w1) := HB.out.trans (hT1.below (fun k hk h => by omega) (Nat.le_of_lt HZ.out))
          have HZ1 := hide hG1.lt
          have d2 := (HB1.out.cell (p := ⟨(eb.add (i * 3)).block, (eb.add (i * 3)).off + 1, none⟩) (by rw [show (⟨(eb.add (i * 3)).block, (eb.add (i * 3)).off + 1, none⟩ : Addr).block = eb.block from add_block _ _]; exact HEB.out)).trans HC2.out
          have HR2 := hide (root54 n n w.heap.size (prs (L.take i)) U1 ro (Nat.le_refl _) (by omega) y hyn w1 hG1 hF1)
          clear hG1 hF1 hT1 HR1 d1 HG HF
          go_wp2_with (fail)
          refine HR2.out.mono ?_
          rintro e2 w2 ⟨rfl, U2, hG2, hF2, _, _, hT2⟩
          have HG2 := hide hG2
          have HF2 := hide hF2
          have HB2 : Hid (Below w.heap.size w w2) := HB1.out.trans (hT2.below (fun k hk h => by omega) (Nat.le_of_lt HZ1.out))
          clear hG2 hF2 hT2 HR2 d2 HG1 HF1
          have hrx := HF2.out.r x hxn
          have hry := HF2.out.r y hyn
          obtain ⟨p, hp⟩ : ∃ p : Nat, ro x = p := ⟨(ro x).toNat, by omega⟩
          obtain ⟨q, hq⟩ : ∃ q : Nat, ro y = q := ⟨(ro y).toNat, by omega⟩
          have hpn : p < n := by omega
          have hqn : q < n := by omega
          rw [hp, hq]
          by_cases hlt : p < q
          · have HFn : Hid (Fo n (prs (L.take (i + 1))) (up U2 q (p : Int)) (mg ro (p : Int) (q : Int))) := by
              show Fo n (prs (L.take (i + 1))) (up U2 q (p : Int)) (mg ro (p : Int) (q : Int))
              have := HF2.out.join x y hxn hyn (by omega)
              rw [hp, hq] at this
              rw [HTk.out]; simpa using this
            have hf := HG2.out.fz q
            have hc := HG2.out.cell q hqn
            have HG3 := hide (HG2.out.set q (p : Int))
            have HB3 : Hid (Below w.heap.size w (w2.setCell ⟨w.heap.size, q, none⟩ (.int .u64 (p : Int)))) := by
              obtain ⟨C1, h1⟩ := HG3.out.2
              show Below _ _ _
              rw [h1]
              exact below_setRow HB2.out (Nat.le_refl _) _
            have hl : decide ((p : Int) < (q : Int)) = true := by simp; omega
            clear hp hq hrx hry HTk
            go_wp2
            all_goals exact ⟨⟨i + 1, _, _, cc, by go_num, HG3.out.1, HFn, HB3⟩, by simp [intOf]; omega⟩
          · have hf := HG2.out.fz p
            have hc := HG2.out.cell p hpn
            have HG3 := hide (HG2.out.set p (q : Int))
            have HB3 : Hid (Below w.heap.size w (w2.setCell ⟨w.heap.size, p, none⟩ (.int .u64 (q : Int)))) := by
              obtain ⟨C1, h1⟩ := HG3.out.2
              show Below _ _ _
              rw [h1]
              exact below_setRow HB2.out (Nat.le_refl _) _
            have hl : decide ((p : Int) < (q : Int)) = false := by simp; omega
            have HEx : Hid (∃ r', Fo n (prs (L.take (i + 1))) (up U2 p (q : Int)) r') := by
              show ∃ r', Fo n (prs (L.take (i + 1))) (up U2 p (q : Int)) r'
              rw [HTk.out]
              by_cases e : q < p
              · have h9 := (HF2.out.join y x hyn hxn (by omega)).swap
                rw [hp, hq] at h9
                exact ⟨mg ro (q : Int) (p : Int), by simpa using h9⟩
              · have e2 : p = q := by omega
                subst e2
                have h9 := HF2.out.stay x y hxn (by omega)
                rw [hp] at h9
                exact ⟨ro, by simpa using h9⟩
            obtain ⟨r', hFn⟩ := HEx.out
            have HFn := hide hFn
            clear hp hq hrx hry HTk HEx hFn
            go_wp2
            all_goals exact ⟨⟨i + 1, _, r', cc, by go_num, HG3.out.1, HFn, HB3⟩, by simp [intOf]; omega⟩
        · have him : i = L.length := by omega
          subst him
          have hLm : L.take L.length = L := List.take_length
          rw [hLm] at HF
          have HU := hide HF.out
          have HG1 := HG
          have HF1 := HF
          have HB1 := HB
          clear HG HF HB cc hi hLm
          go_wp2_with (fail)
          go_loopw [10] (fun v wr => ∃ (j : Nat) (V : Nat → Int), j ≤ n ∧ v = .int .i64 j ∧ Hid (GU wr w.heap.size n V) ∧ Hid (Fo n (prs L) V ro) ∧ Hid (∀ v, v < j → V v = ro v) ∧ Hid (Below w.heap.size w wr)) (fun v _ => n - (intOf v).toNat)
          case atStart => exact ⟨0, _, Nat.zero_le _, rfl, HG1, HF1, fun v hv => by omega, HB1⟩
          case round =>
            clear HG1 HF1 HB1
            obtain ⟨j, V, hj, rfl, HG, HF, HV, HB⟩ := hrel
            by_cases cc : j < n
            · have hwj : IntKind.u64.wrap (j : Int) = j := wu _ (by omega) (by omega)
              have HR1 := hide (root54 n n w.heap.size (prs L) V ro (Nat.le_refl _) (by omega) j cc wr HG.out HF.out)
              have HZ := hide HG.out.lt
              go_wp2_with (fail)
              refine HR1.out.mono ?_
              rintro e1 w1 ⟨rfl, U1, hG1, hF1, hS1, _, hT1⟩
              have HG2 := hide (hG1.set j (ro j))
              have HF2 := hide (hF1.flat j cc)
              have HV2 : Hid (∀ v, v < j + 1 → up U1 j (ro j) v = ro v) := fun v hv => by
                by_cases e : v = j
                · subst e; exact up_eq _ _ _
                · rw [up_ne _ _ _ _ e]; exact hS1 v (by omega) (HV.out v (by omega))
              have hf := hG1.fz j
              have hc := hG1.cell j cc
              have HB2 : Hid (Below w.heap.size w (w1.setCell ⟨w.heap.size, j, none⟩ (.int .u64 (ro j)))) := by
                obtain ⟨C1, h1⟩ := HG2.out.2
                show Below _ _ _
                rw [h1]
                exact below_setRow (HB.out.trans (hT1.below (fun k hk h => by omega) (Nat.le_of_lt HZ.out))) (Nat.le_refl _) _
              clear hG1 hF1 hS1 hT1 HR1 HG HF HV
              go_wp2
              all_goals exact ⟨⟨j + 1, _, cc, by go_num, HG2.out.1, HF2, HV2, HB2⟩, by simp [intOf]; omega⟩
            · have hjn : n = j := by omega
              subst hjn
              have HGf : Hid (GU wr w.heap.size n ro) := HG.out.ext (fun v hv => HV.out v hv)
              clear cc hj HG HF HV
              go_wp2
              all_goals go_ret
              all_goals exact ⟨rfl, _, ro, HU.out, HGf.out, HB.out⟩
end Au
end Go.Proofs.YtgoigcpdfecfhaaGreatDoor
