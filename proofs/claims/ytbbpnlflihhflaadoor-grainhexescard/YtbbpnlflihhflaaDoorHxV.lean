import Derived.Test.YtbbpnlflihhflaaDoorHxU
namespace Go.Proofs.YtbbpnlflihhflaaDoor
namespace Hx
open Go.RowKit
set_option linter.unusedVariables false
/-- The digits ahead of the p: the number, the power of two, where it ends. -/
def fs : List UInt8 → Nat → Nat → Int → Bool → Option (Nat × Int × Nat)
  | [], i, m, e, b => some (m, e, i)
  | c :: r, i, m, e, b => if c = 112 then some (m, e, i) else if c = 46 ∧ b = false then fs r (i + 1) m e true else
      if dv c.toNat < 0 ∨ 8 < i then none else fs r (i + 1) (m * 16 + (dv c.toNat).toNat) (if b then e - 4 else e) b
def ff (l : List UInt8) : Int × Bool :=
  match fs l 0 0 0 false with
  | none => (0, false)
  | some (m, e, i) => if l.length < i + 2 ∨ 6 < l.length - i then (0, false) else
    match p10 (l.drop (i + 1)) with
    | (n, true) => (Rd.rnd false m (e + n), true)
    | (_, false) => (0, false)
theorem p10_b (l : List UInt8) : -100000 < (p10 l).1 ∧ (p10 l).1 < 100000 := by
  have hpd : ∀ (r : List UInt8) (k acc n : Nat), acc < 10 ^ k → pd acc r = some n → n < 10 ^ (k + r.length) := by
    intro r
    induction r with
    | nil => intro k acc n h1 h2; simp [pd] at h2; subst h2; simpa using h1
    | cons c r ih =>
      intro k acc n h1 h2
      rw [pd] at h2
      split at h2
      · cases h2
      · have := ih (k + 1) _ n (by rw [Nat.pow_succ]; omega) h2
        rw [List.length_cons]
        rw [show k + (r.length + 1) = k + 1 + r.length by omega]; exact this
  unfold p10
  cases l with
  | nil => simp
  | cons c r =>
    simp only
    split
    · simp
    · rename_i hx
      cases h : pd 0 r with
      | none => simp
      | some n =>
        have h9 := hpd r 0 0 n (by decide) h
        have h8 : 10 ^ (0 + r.length) ≤ 10 ^ 4 := Nat.pow_le_pow_right (by omega) (by omega)
        simp only
        split <;> omega
theorem step_b (i m d : Nat) (h : m < 16 ^ i) (hi : i ≤ 8) (hd : d < 16) : m * 16 + d < 16 ^ (i + 1) ∧ m * 16 + d < 68719476736 ∧ m < 4294967296 := by
  have h1 : 16 ^ i ≤ 16 ^ 8 := Nat.pow_le_pow_right (by omega) hi
  refine ⟨by rw [Nat.pow_succ]; omega, by omega, by omega⟩
set_option maxRecDepth 100000 in
set_option maxHeartbeats 2000000 in
theorem finite_any (l : List UInt8) (hl : l.length ≤ 140737488355000) (w : World) : Calls Tryd.prog 11 #[.string (bs l)] w fun e w' => e = .returned (.tuple #[.int .u32 (ff l).1, .bool (ff l).2]) ∧ w' = w := by
  obtain ⟨R1, R2, hR⟩ : ∃ R1 R2, ff l = (R1, R2) := ⟨_, _, rfl⟩
  rw [hR]
  have HR : Hid (ff l = (R1, R2)) := hR
  clear hR
  show Calls _ _ _ _ (fun e w' => e = .returned (.tuple #[.int .u32 R1, .bool R2]) ∧ w' = w)
  have HSZ : Hid ((bs l).size = l.length) := bs_size l
  have hsl : ((bs l).size : Int) ≤ 140737488355000 := by have := HSZ.out; omega
  go_enter Tryd.func11, Tryd.ntmps11
  go_wp2
  go_loop [6, 4, 5, 7] (fun i v x y => ∃ (j m : Nat) (e : Int) (b : Bool), j ≤ l.length ∧ i = .int .i64 (j : Int) ∧ v = .int .u64 (m : Int) ∧ x = .int .i64 e ∧ y = .bool b ∧ (j ≤ 9 → m < 16 ^ j) ∧ m < 68719476736 ∧ -4 * (j : Int) ≤ e ∧ -36 ≤ e ∧ e ≤ 0 ∧ fs l 0 0 0 false = fs (l.drop j) j m e b) (fun i _ _ _ => l.length - (intOf i).toNat)
  case atStart => exact ⟨0, 0, 0, false, Nat.zero_le _, rfl, rfl, rfl, rfl, fun _ => by decide, by omega, by omega, by omega, by omega, rfl⟩
  case round =>
    obtain ⟨j, m, e, b, hj, rfl, rfl, rfl, rfl, hm1, hm2, he1, he2, he3, hf⟩ := hrel
    have HF : Hid ((j ≤ 9 → m < 16 ^ j) ∧ fs l 0 0 0 false = fs (l.drop j) j m e b) := ⟨hm1, hf⟩
    clear hm1 hf
    by_cases hjl : j < l.length
    · obtain ⟨c, hc⟩ : ∃ c, l[j]? = some c := ⟨l[j], List.getElem?_eq_getElem hjl⟩
      have hg : ∀ h, (bs l)[j]'h = c := fun h => bs_get l j c hc h
      have hcl := c.toNat_lt
      have hjs : (j : Int) < ((bs l).size : Int) := by have := HSZ.out; omega
      have HD : Hid (l.drop j = c :: l.drop (j + 1)) := by show l.drop j = _; rw [List.drop_eq_getElem_cons hjl, (List.getElem?_eq_some_iff.1 hc).2]
      clear hc
      by_cases hp : c = 112
      · subst hp
        have HS : Hid (fs l 0 0 0 false = some (m, e, j)) := by show fs l 0 0 0 false = _; rw [HF.out.2, HD.out, fs, if_pos rfl]
        clear HF HD
        have HJ : Hid (l.length = (bs l).size) := HSZ.out.symm
        by_cases hsh : l.length < j + 2
        · obtain ⟨rfl, rfl⟩ : R1 = 0 ∧ R2 = false := by have h := HR.out; unfold ff at h; rw [HS.out] at h; simp only at h; rw [if_pos (.inl hsh)] at h; simp at h; exact ⟨h.1.symm, h.2⟩
          have hs2 : ((bs l).size : Int) < (j : Int) + 2 := by have := HSZ.out; omega
          clear HS HR HSZ HJ hsh
          go_wp2
          go_ret2
          exact ⟨rfl, rfl⟩
        by_cases hlg : 6 < l.length - j
        · obtain ⟨rfl, rfl⟩ : R1 = 0 ∧ R2 = false := by have h := HR.out; unfold ff at h; rw [HS.out] at h; simp only at h; rw [if_pos (.inr hlg)] at h; simp at h; exact ⟨h.1.symm, h.2⟩
          have hs2 : ¬ ((bs l).size : Int) < (j : Int) + 2 := by have := HSZ.out; omega
          have hs3 : (6 : Int) < ((bs l).size : Int) - (j : Int) := by have := HSZ.out; omega
          clear HS HR HSZ HJ hsh hlg
          go_wp2
          go_ret2
          exact ⟨rfl, rfl⟩
        have hs2 : ¬ ((bs l).size : Int) < (j : Int) + 2 := by have := HSZ.out; omega
        have hs3 : ¬ (6 : Int) < ((bs l).size : Int) - (j : Int) := by have := HSZ.out; omega
        have hs4 : (j : Int) + 1 ≤ ((bs l).size : Int) := by have := HSZ.out; omega
        have hex : (bs l).extract (j + 1) (bs l).size = bs (l.drop (j + 1)) := by
          rw [bs_ext, HSZ.out, List.take_of_length_le (by rw [List.length_drop]; omega)]
        obtain ⟨n, o, hno⟩ : ∃ n o, p10 (l.drop (j + 1)) = (n, o) := ⟨_, _, rfl⟩
        have hnb := p10_b (l.drop (j + 1))
        rw [hno] at hnb
        simp only at hnb
        have HPW : Hid (∀ W, Calls Tryd.prog 29 #[.string (bs (l.drop (j + 1)))] W fun e w' => e = .returned (.tuple #[.int .i64 n, .bool o]) ∧ w' = W) := fun W => by
          have h := power_any (l.drop (j + 1)) (by rw [List.length_drop]; omega) W
          rw [hno] at h
          exact h
        have HRR : Hid ((match (n, o) with | (n, true) => (Rd.rnd false m (e + n), true) | (_, false) => ((0 : Int), false)) = (R1, R2)) := by
          have h := HR.out; unfold ff at h; rw [HS.out] at h; simp only at h; rw [if_neg (by omega), hno] at h; exact h
        clear HS HR HSZ HJ hsh hlg hno
        generalize bs (l.drop (j + 1)) = tt at *
        cases o
        · obtain ⟨rfl, rfl⟩ : R1 = 0 ∧ R2 = false := by have h := HRR.out; simp at h; exact ⟨h.1.symm, h.2⟩
          clear HRR
          go_wp2_with (fail)
          refine (HPW.out _).mono ?_
          rintro e1 w1 ⟨rfl, h1⟩
          subst w1
          clear HPW
          go_wp2
          go_ret2
          exact ⟨rfl, rfl⟩
        · obtain ⟨rfl, rfl⟩ : R1 = Rd.rnd false m (e + n) ∧ R2 = true := by have h := HRR.out; simp at h; exact ⟨h.1.symm, h.2⟩
          have HRD : Hid (∀ W, Calls Tryd.prog 30 #[.bool false, .int .u64 (m : Int), .int .i64 (e + n)] W fun e' w' => e' = .returned (.int .u32 (Rd.rnd false m (e + n))) ∧ w' = W) := fun W => Rd.ref_any false m (e + n) (by omega) (by omega) (by omega) (by omega) W
          clear HRR
          go_wp2_with (fail)
          refine (HPW.out _).mono ?_
          rintro e1 w1 ⟨rfl, h1⟩
          subst w1
          clear HPW
          go_wp2_with (fail)
          refine (HRD.out _).mono ?_
          rintro e1 w1 ⟨rfl, h1⟩
          subst w1
          clear HRD
          go_wp2
          go_ret2
          exact ⟨rfl, rfl⟩
      · have q1 : ((c.toNat : Int) == 112) = false := toNat_ne (k := 112) (by omega) hp
        have q3 : ¬ c.toNat = 112 := by simp at q1; omega
        have q5 : ((c.toNat : Int) != 112) = true := by simp; omega
        by_cases h46 : c = 46
        · subst h46
          cases b
          · have HN : Hid ((j + 1 ≤ 9 → m < 16 ^ (j + 1)) ∧ fs l 0 0 0 false = fs (l.drop (j + 1)) (j + 1) m e true) := by
              refine ⟨fun h => ?_, ?_⟩
              · have := HF.out.1 (by omega)
                rw [Nat.pow_succ]; omega
              · rw [HF.out.2, HD.out, fs, if_neg hp, if_pos ⟨rfl, rfl⟩]
            clear HF HD HR HSZ hp q1 q3 q5 hcl
            go_wp2
            exact ⟨⟨j + 1, m, e, true, by omega, by go_num, rfl, rfl, rfl, HN.out.1, by omega, by omega, by omega, by omega, HN.out.2⟩, by simp [intOf]; omega⟩
          · have HC : Hid (∀ W, Calls Tryd.prog 10 #[.int .u8 46] W fun e w' => e = .returned (.int .i64 (-1)) ∧ w' = W) := fun W => digit_any 46 (by omega) W
            have HE : Hid (fs l 0 0 0 false = none) := by
              show _ = none
              rw [HF.out.2, HD.out, fs, if_neg hp, if_neg (by simp), if_pos (.inl (by decide))]
            obtain ⟨rfl, rfl⟩ : R1 = 0 ∧ R2 = false := by have h := HR.out; unfold ff at h; rw [HE.out] at h; simp at h; exact ⟨h.1.symm, h.2⟩
            clear HF HD HR HSZ hp HE q1 q3 q5 hcl
            go_wp2_with (fail)
            refine (HC.out _).mono ?_
            rintro e1 w1 ⟨rfl, h1⟩
            subst w1
            go_wp2
            go_ret2
            exact ⟨rfl, rfl⟩
        · have q2 : ((c.toNat : Int) == 46) = false := toNat_ne (k := 46) (by omega) h46
          have q4 : ¬ c.toNat = 46 := by simp at q2; omega
          have HC : Hid (∀ W, Calls Tryd.prog 10 #[.int .u8 (c.toNat : Int)] W fun e w' => e = .returned (.int .i64 (dv c.toNat)) ∧ w' = W) := fun W => digit_any c.toNat hcl W
          have hdv := dv_b c.toNat
          have HQ : Hid (fs l 0 0 0 false = if dv c.toNat < 0 ∨ 8 < j then none else fs (l.drop (j + 1)) (j + 1) (m * 16 + (dv c.toNat).toNat) (if b then e - 4 else e) b) := by
            show fs l 0 0 0 false = _
            rw [HF.out.2, HD.out, fs, if_neg hp, if_neg (fun h => h46 h.1)]
          generalize dv c.toNat = D at *
          by_cases hbad : D < 0 ∨ 8 < j
          · have HE : Hid (fs l 0 0 0 false = none) := by show _ = none; rw [HQ.out, if_pos hbad]
            obtain ⟨rfl, rfl⟩ : R1 = 0 ∧ R2 = false := by have h := HR.out; unfold ff at h; rw [HE.out] at h; simp at h; exact ⟨h.1.symm, h.2⟩
            clear HF HD HR HSZ hp HQ HE h46
            by_cases hDn : D < 0
            · clear hbad
              go_wp2_with (fail)
              refine (HC.out _).mono ?_
              rintro e1 w1 ⟨rfl, h1⟩
              subst w1
              go_wp2
              go_ret2
              exact ⟨rfl, rfl⟩
            · have hj8 : (8 : Int) < (j : Int) := by omega
              clear hbad
              go_wp2_with (fail)
              refine (HC.out _).mono ?_
              rintro e1 w1 ⟨rfl, h1⟩
              subst w1
              go_wp2
              go_ret2
              exact ⟨rfl, rfl⟩
          · have hD0 : 0 ≤ D := by omega
            have hj8 : ¬ (8 : Int) < (j : Int) := by omega
            obtain ⟨d, rfl⟩ : ∃ d : Nat, D = (d : Int) := ⟨D.toNat, by omega⟩
            obtain ⟨s1, s2, s3⟩ := step_b j m d (HF.out.1 (by omega)) (by omega) (by omega)
            have HN : Hid ((j + 1 ≤ 9 → m * 16 + d < 16 ^ (j + 1)) ∧ fs l 0 0 0 false = fs (l.drop (j + 1)) (j + 1) (m * 16 + d) (if b then e - 4 else e) b) := ⟨fun _ => s1, by rw [HQ.out, if_neg hbad]; rfl⟩
            have hw1 : IntKind.u64.wrap (d : Int) = (d : Int) := by rw [IntKind.wrap_u64]; omega
            have hjb : j ≤ 8 := by omega
            clear HF HD HR HSZ hp HQ hbad s1 h46
            cases b
            · skip
              go_wp2_with (fail)
              refine (HC.out _).mono ?_
              rintro e1 w1 ⟨rfl, h1⟩
              subst w1
              go_wp2
              exact ⟨⟨j + 1, m * 16 + d, e, false, by omega, by go_num, by go_num, by go_num, rfl, HN.out.1, by omega, by omega, by omega, by omega, HN.out.2⟩, by simp [intOf]; omega⟩
            · skip
              go_wp2_with (fail)
              refine (HC.out _).mono ?_
              rintro e1 w1 ⟨rfl, h1⟩
              subst w1
              go_wp2
              exact ⟨⟨j + 1, m * 16 + d, e - 4, true, by omega, by go_num, by go_num, by go_num, rfl, HN.out.1, by omega, by omega, by omega, by omega, HN.out.2⟩, by simp [intOf]; omega⟩
    · obtain rfl : j = l.length := by omega
      have hjs : ¬ (l.length : Int) < ((bs l).size : Int) := by have := HSZ.out; omega
      have HS : Hid (fs l 0 0 0 false = some (m, e, l.length)) := by show fs l 0 0 0 false = _; rw [HF.out.2, List.drop_length, fs]
      clear HF
      obtain ⟨rfl, rfl⟩ : R1 = 0 ∧ R2 = false := by have h := HR.out; unfold ff at h; rw [HS.out] at h; simp at h; exact ⟨h.1.symm, h.2⟩
      have hjs2 : ((bs l).size : Int) < (l.length : Int) + 2 := by have := HSZ.out; omega
      clear HS HR HSZ
      go_wp2
      go_ret2
      exact ⟨rfl, rfl⟩
end Hx
end Go.Proofs.YtbbpnlflihhflaaDoor
