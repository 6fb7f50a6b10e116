import Derived.Test.YtbbpnlflihhflaaDoorHxT
namespace Go.Proofs.YtbbpnlflihhflaaDoor
namespace Hx
open Go.RowKit
set_option linter.unusedVariables false
theorem bs_get (l : List UInt8) (i : Nat) (c : UInt8) (h : l[i]? = some c) (h2 : i < (bs l).size) : (bs l)[i]'h2 = c := by
  obtain ⟨h3, h4⟩ := List.getElem?_eq_some_iff.1 h
  rw [← h4]; rfl
/-- A digit. -/
def dv (c : Nat) : Int := if 48 ≤ c ∧ c ≤ 57 then (c : Int) - 48 else if 97 ≤ c ∧ c ≤ 102 then (c : Int) - 87 else -1
theorem dv_b (c : Nat) : -1 ≤ dv c ∧ dv c < 16 := by unfold dv; split <;> (try split) <;> omega
theorem digit_any (c : Nat) (h : c < 256) (w : World) : Calls Tryd.prog 10 #[.int .u8 (c : Int)] w fun e w' => e = .returned (.int .i64 (dv c)) ∧ w' = w := by
  unfold dv
  by_cases h1 : c < 48
  · rw [if_neg (by omega), if_neg (by omega)]
    go_enter Tryd.func10, Tryd.ntmps10
    go_wp2
    go_ret
    exact ⟨rfl, rfl⟩
  by_cases h2 : c ≤ 57
  · rw [if_pos (by omega)]
    go_enter Tryd.func10, Tryd.ntmps10
    go_wp2
    go_ret
    exact ⟨Rd.ret_int (by go_num), rfl⟩
  by_cases h3 : c < 97
  · rw [if_neg (by omega), if_neg (by omega)]
    go_enter Tryd.func10, Tryd.ntmps10
    go_wp2
    go_ret
    exact ⟨rfl, rfl⟩
  by_cases h4 : c ≤ 102
  · rw [if_neg (by omega), if_pos (by omega)]
    go_enter Tryd.func10, Tryd.ntmps10
    go_wp2
    go_ret
    exact ⟨Rd.ret_int (by go_num), rfl⟩
  · rw [if_neg (by omega), if_neg (by omega)]
    go_enter Tryd.func10, Tryd.ntmps10
    go_wp2
    go_ret
    exact ⟨rfl, rfl⟩
/-- Decimal digits. -/
def pd (acc : Nat) : List UInt8 → Option Nat
  | [] => some acc
  | c :: r => if c.toNat < 48 ∨ 57 < c.toNat then none else pd (acc * 10 + (c.toNat - 48)) r
def p10 (l : List UInt8) : Int × Bool :=
  match l with
  | [] => (0, false)
  | c :: r => if r.length < 1 ∨ 4 < r.length ∨ (c ≠ 43 ∧ c ≠ 45) then (0, false) else
    match pd 0 r with
    | none => (0, false)
    | some n => (if c = 45 then -(n : Int) else n, true)
theorem toNat_ne {c : UInt8} {k : Nat} (hk : k < 256) (h : c ≠ UInt8.ofNat k) : ((c.toNat : Int) == (k : Int)) = false := by
  rw [beq_eq_false_iff_ne]
  intro e
  apply h
  have : c.toNat = k := by omega
  rw [← this]; simp
set_option maxRecDepth 100000 in
set_option maxHeartbeats 1000000 in
theorem power_any (l : List UInt8) (hl : l.length ≤ 140737488355328) (w : World) : Calls Tryd.prog 29 #[.string (bs l)] w fun e w' => e = .returned (.tuple #[.int .i64 (p10 l).1, .bool (p10 l).2]) ∧ w' = w := by
  have hsz := bs_size l
  have hsI : ((bs l).size : Int) = (l.length : Int) := by omega
  cases l with
  | nil =>
    go_enter Tryd.func29, Tryd.ntmps29
    go_wp2
    go_ret2
    exact ⟨rfl, rfl⟩
  | cons c r =>
    have hg0 : ∀ h, (bs (c :: r))[0]'h = c := fun h => bs_get _ 0 c rfl h
    have hlr : (c :: r).length = r.length + 1 := rfl
    have hc := c.toNat_lt
    by_cases h1 : r.length < 1 ∨ 4 < r.length
    · have e : p10 (c :: r) = (0, false) := by unfold p10; simp only; rw [if_pos (by omega)]
      rw [e]
      rw [hlr] at hsz
      rcases h1 with h1 | h1
      · have : ((bs (c :: r)).size : Int) < 2 := by omega
        clear hg0 hsI hlr hl e
        go_enter Tryd.func29, Tryd.ntmps29
        go_wp2
        go_ret2
        exact ⟨rfl, rfl⟩
      · have h5 : (5 : Int) < ((bs (c :: r)).size : Int) := by omega
        have h6 : ¬ ((bs (c :: r)).size : Int) < 2 := by omega
        clear hg0 hsI hlr hl e hsz h1
        go_enter Tryd.func29, Tryd.ntmps29
        go_wp2
        go_ret2
        exact ⟨rfl, rfl⟩
    · by_cases h43 : c = 43
      · subst h43
        rw [hlr] at hsz
        refine ?_
        · have e0 : p10 (43 :: r) = (match pd 0 r with | none => (0, false) | some n => ((n : Int), true)) := by
            unfold p10; simp only; rw [if_neg (by rintro (h | h | h) <;> first | omega | exact absurd rfl h.1)]; rfl
          obtain ⟨R1, R2, hR⟩ : ∃ R1 R2, p10 (43 :: r) = (R1, R2) := ⟨_, _, rfl⟩
          rw [hR]
          have HR : Hid ((match pd 0 r with | none => ((0 : Int), false) | some n => ((n : Int), true)) = (R1, R2)) := e0.symm.trans hR
          clear hR
          show Calls _ _ _ _ (fun e w' => e = .returned (.tuple #[.int .i64 R1, .bool R2]) ∧ w' = w)
          have HSZ : Hid ((bs (43 :: r)).size = r.length + 1) := by rw [bs_size]; rfl
          have hs2 : ¬ ((bs (43 :: r)).size : Int) < 2 := by have := HSZ.out; omega
          have hs5 : ¬ (5 : Int) < ((bs (43 :: r)).size : Int) := by have := HSZ.out; omega
          have HG : Hid (∀ k d, r[k]? = some d → ∀ h, (bs (43 :: r))[k + 1]'h = d) := fun k d hk h => bs_get _ (k + 1) d (by simpa using hk) h
          clear hsz hsI hlr hl e0
          go_enter Tryd.func29, Tryd.ntmps29
          go_wp2
          go_loop [5, 4] (fun i v => ∃ k n : Nat, k ≤ r.length ∧ i = .int .i64 ((k : Int) + 1) ∧ v = .int .i64 (n : Int) ∧ n < 10 ^ k ∧ pd 0 r = pd n (r.drop k)) (fun i _ => r.length + 1 - (intOf i).toNat)
          case atStart => exact ⟨0, 0, Nat.zero_le _, rfl, rfl, by decide, rfl⟩
          case round =>
            obtain ⟨k, n, hk, rfl, rfl, hn, hp⟩ := hrel
            have hn4 : n < 10000 := Nat.lt_of_lt_of_le hn (Nat.pow_le_pow_right (n := 10) (by omega) (show k ≤ 4 by omega))
            have HP : Hid (n < 10 ^ k ∧ pd 0 r = pd n (r.drop k)) := ⟨hn, hp⟩
            clear hn hp
            by_cases hkl : k < r.length
            · obtain ⟨d, hd⟩ : ∃ d, r[k]? = some d := ⟨r[k], List.getElem?_eq_getElem hkl⟩
              have hgk := HG.out k d hd
              have hdl := d.toNat_lt
              have hks : (k : Int) + 1 < ((bs (43 :: r)).size : Int) := by have := HSZ.out; omega
              have HD : Hid (r.drop k = d :: r.drop (k + 1)) := by show r.drop k = _; rw [List.drop_eq_getElem_cons hkl, (List.getElem?_eq_some_iff.1 hd).2]
              clear hd
              by_cases hb : d.toNat < 48
              · have HE : Hid (pd 0 r = none) := by show pd 0 r = none; rw [HP.out.2, HD.out, pd, if_pos (.inl hb)]
                obtain ⟨rfl, rfl⟩ : R1 = 0 ∧ R2 = false := by have h := HR.out; rw [HE.out] at h; simp at h; exact ⟨h.1.symm, h.2⟩
                clear HP HD HE HG HSZ HR
                go_wp2
                go_ret2
                exact ⟨rfl, rfl⟩
              by_cases hb2 : 57 < d.toNat
              · have HE : Hid (pd 0 r = none) := by show pd 0 r = none; rw [HP.out.2, HD.out, pd, if_pos (.inr hb2)]
                obtain ⟨rfl, rfl⟩ : R1 = 0 ∧ R2 = false := by have h := HR.out; rw [HE.out] at h; simp at h; exact ⟨h.1.symm, h.2⟩
                clear HP HD HE HG HSZ HR
                go_wp2
                go_ret2
                exact ⟨rfl, rfl⟩
              · have HN : Hid (n * 10 + (d.toNat - 48) < 10 ^ (k + 1) ∧ pd 0 r = pd (n * 10 + (d.toNat - 48)) (r.drop (k + 1))) := by
                  refine ⟨by have := HP.out.1; rw [Nat.pow_succ]; omega, ?_⟩
                  rw [HP.out.2, HD.out, pd, if_neg (by omega)]
                clear HP HD HG HSZ HR
                go_wp2
                exact ⟨⟨k + 1, n * 10 + (d.toNat - 48), by omega, by go_num, by go_num, HN.out.1, HN.out.2⟩, by simp [intOf]; omega⟩
            · obtain rfl : k = r.length := by omega
              have HE : Hid (pd 0 r = some n) := by show pd 0 r = some n; rw [HP.out.2, List.drop_length]; rfl
              obtain ⟨rfl, rfl⟩ : R1 = (n : Int) ∧ R2 = true := by have h := HR.out; rw [HE.out] at h; simp at h; exact ⟨h.1.symm, h.2⟩
              have hks : ¬ (r.length : Int) + 1 < ((bs (43 :: r)).size : Int) := by have := HSZ.out; omega
              have hs1 : (0 : Int) < ((bs (43 :: r)).size : Int) := by have := HSZ.out; omega
              clear HP HE HG HSZ HR
              go_wp2
              go_ret2
              exact ⟨rfl, rfl⟩
      · by_cases h45 : c = 45
        · subst h45
          rw [hlr] at hsz
          refine ?_
          · have e0 : p10 (45 :: r) = (match pd 0 r with | none => (0, false) | some n => (-(n : Int), true)) := by
              unfold p10; simp only; rw [if_neg (by rintro (h | h | h) <;> first | omega | exact absurd rfl h.2)]; rfl
            obtain ⟨R1, R2, hR⟩ : ∃ R1 R2, p10 (45 :: r) = (R1, R2) := ⟨_, _, rfl⟩
            rw [hR]
            have HR : Hid ((match pd 0 r with | none => ((0 : Int), false) | some n => (-(n : Int), true)) = (R1, R2)) := e0.symm.trans hR
            clear hR
            show Calls _ _ _ _ (fun e w' => e = .returned (.tuple #[.int .i64 R1, .bool R2]) ∧ w' = w)
            have HSZ : Hid ((bs (45 :: r)).size = r.length + 1) := by rw [bs_size]; rfl
            have hs2 : ¬ ((bs (45 :: r)).size : Int) < 2 := by have := HSZ.out; omega
            have hs5 : ¬ (5 : Int) < ((bs (45 :: r)).size : Int) := by have := HSZ.out; omega
            have HG : Hid (∀ k d, r[k]? = some d → ∀ h, (bs (45 :: r))[k + 1]'h = d) := fun k d hk h => bs_get _ (k + 1) d (by simpa using hk) h
            clear hsz hsI hlr hl e0
            go_enter Tryd.func29, Tryd.ntmps29
            go_wp2
            go_loop [5, 4] (fun i v => ∃ k n : Nat, k ≤ r.length ∧ i = .int .i64 ((k : Int) + 1) ∧ v = .int .i64 (n : Int) ∧ n < 10 ^ k ∧ pd 0 r = pd n (r.drop k)) (fun i _ => r.length + 1 - (intOf i).toNat)
            case atStart => exact ⟨0, 0, Nat.zero_le _, rfl, rfl, by decide, rfl⟩
            case round =>
              obtain ⟨k, n, hk, rfl, rfl, hn, hp⟩ := hrel
              have hn4 : n < 10000 := Nat.lt_of_lt_of_le hn (Nat.pow_le_pow_right (n := 10) (by omega) (show k ≤ 4 by omega))
              have HP : Hid (n < 10 ^ k ∧ pd 0 r = pd n (r.drop k)) := ⟨hn, hp⟩
              clear hn hp
              by_cases hkl : k < r.length
              · obtain ⟨d, hd⟩ : ∃ d, r[k]? = some d := ⟨r[k], List.getElem?_eq_getElem hkl⟩
                have hgk := HG.out k d hd
                have hdl := d.toNat_lt
                have hks : (k : Int) + 1 < ((bs (45 :: r)).size : Int) := by have := HSZ.out; omega
                have HD : Hid (r.drop k = d :: r.drop (k + 1)) := by show r.drop k = _; rw [List.drop_eq_getElem_cons hkl, (List.getElem?_eq_some_iff.1 hd).2]
                clear hd
                by_cases hb : d.toNat < 48
                · have HE : Hid (pd 0 r = none) := by show pd 0 r = none; rw [HP.out.2, HD.out, pd, if_pos (.inl hb)]
                  obtain ⟨rfl, rfl⟩ : R1 = 0 ∧ R2 = false := by have h := HR.out; rw [HE.out] at h; simp at h; exact ⟨h.1.symm, h.2⟩
                  clear HP HD HE HG HSZ HR
                  go_wp2
                  go_ret2
                  exact ⟨rfl, rfl⟩
                by_cases hb2 : 57 < d.toNat
                · have HE : Hid (pd 0 r = none) := by show pd 0 r = none; rw [HP.out.2, HD.out, pd, if_pos (.inr hb2)]
                  obtain ⟨rfl, rfl⟩ : R1 = 0 ∧ R2 = false := by have h := HR.out; rw [HE.out] at h; simp at h; exact ⟨h.1.symm, h.2⟩
                  clear HP HD HE HG HSZ HR
                  go_wp2
                  go_ret2
                  exact ⟨rfl, rfl⟩
                · have HN : Hid (n * 10 + (d.toNat - 48) < 10 ^ (k + 1) ∧ pd 0 r = pd (n * 10 + (d.toNat - 48)) (r.drop (k + 1))) := by
                    refine ⟨by have := HP.out.1; rw [Nat.pow_succ]; omega, ?_⟩
                    rw [HP.out.2, HD.out, pd, if_neg (by omega)]
                  clear HP HD HG HSZ HR
                  go_wp2
                  exact ⟨⟨k + 1, n * 10 + (d.toNat - 48), by omega, by go_num, by go_num, HN.out.1, HN.out.2⟩, by simp [intOf]; omega⟩
              · obtain rfl : k = r.length := by omega
                have HE : Hid (pd 0 r = some n) := by show pd 0 r = some n; rw [HP.out.2, List.drop_length]; rfl
                obtain ⟨rfl, rfl⟩ : R1 = -(n : Int) ∧ R2 = true := by have h := HR.out; rw [HE.out] at h; simp at h; exact ⟨h.1.symm, h.2⟩
                have hks : ¬ (r.length : Int) + 1 < ((bs (45 :: r)).size : Int) := by have := HSZ.out; omega
                have hs1 : (0 : Int) < ((bs (45 :: r)).size : Int) := by have := HSZ.out; omega
                clear HP HE HG HSZ HR
                go_wp2
                go_ret2
                exact ⟨rfl, rfl⟩
        · have e : p10 (c :: r) = (0, false) := by unfold p10; simp only; rw [if_pos (.inr (.inr ⟨h43, h45⟩))]
          rw [e]
          rw [hlr] at hsz
          have q1 : ((c.toNat : Int) == 43) = false := toNat_ne (k := 43) (by omega) h43
          have q2 : ((c.toNat : Int) == 45) = false := toNat_ne (k := 45) (by omega) h45
          have q3 : ¬ c.toNat = 43 := by simp at q1; omega
          have q4 : ¬ c.toNat = 45 := by simp at q2; omega
          have q5 : ((c.toNat : Int) != 43) = true := by simp; omega
          have q6 : ((c.toNat : Int) != 45) = true := by simp; omega
          have hs2 : ¬ ((bs (c :: r)).size : Int) < 2 := by omega
          have hs5 : ¬ (5 : Int) < ((bs (c :: r)).size : Int) := by omega
          have hs1 : (0 : Int) < ((bs (c :: r)).size : Int) := by omega
          clear hsI hlr hl e hsz h1 h43 h45
          go_enter Tryd.func29, Tryd.ntmps29
          go_wp2
          go_ret2
          exact ⟨rfl, rfl⟩
end Hx
end Go.Proofs.YtbbpnlflihhflaaDoor
