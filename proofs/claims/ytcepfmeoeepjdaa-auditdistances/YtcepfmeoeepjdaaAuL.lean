import Derived.Test.YtcepfmeoeepjdaaAuK
namespace Go.Proofs.Ytcepfmeoeepjdaa
namespace Au
open Go.RowKit
set_option linter.unusedVariables false
set_option maxRecDepth 8000
theorem cells3 {v : World} {ad : Addr} {j : Nat} {p q r : Value} (h : v.cell? (ad.add (j * 3)) = some p ∧ v.cell? (ad.add (j * 3 + 1)) = some q ∧ v.cell? (ad.add (j * 3 + 2)) = some r) : v.cell? (ad.add (j * 3)) = some p ∧ v.cell? ⟨(ad.add (j * 3)).block, (ad.add (j * 3)).off + 1, none⟩ = some q ∧ v.cell? ⟨(ad.add (j * 3)).block, (ad.add (j * 3)).off + 2, none⟩ = some r := by
  rw [← Addr.add_add, ← Addr.add_add] at h
  exact h
set_option maxHeartbeats 1000000 in
theorem weighs_any (kd x : Int) (hk : kd = 1 ∨ kd = 2) (w : World) : Calls Try.prog 92 #[.int .i64 kd, .int .u32 x] w fun e w' => e = .returned (.bool (wg kd x)) ∧ w' = w := by
  rcases hk with rfl | rfl
  · rw [show wg 1 x = (x == 0) from rfl]
    go_enter Try.func92, Try.ntmps92
    go_wp2
    all_goals go_ret
    all_goals exact ⟨rfl, rfl⟩
  · rw [show wg 2 x = true from rfl]
    go_enter Try.func92, Try.ntmps92
    go_wp2
    all_goals go_ret
    all_goals exact ⟨rfl, rfl⟩
/-- The document's error. -/
def dk (made : Int) (n sn rl p : Nat) (kd : Int) (L : List T3) (f : Int) : Int := if ak made n sn rl p ≠ 0 then ak made n sn rl p else fa n kd L f
theorem fa_step (n : Nat) (kd : Int) (L : List T3) (f : Int) (k : Nat) (hk : k < L.length) (e : T3) (he : L[k]? = some e) (hg : ∀ x ∈ L.take k, bad n kd x = 0) : fa n kd L f = if bad n kd e = 0 then fa n kd (L.drop (k + 1)) f else bad n kd e := by
  have hL : L[k]? = some L[k] := List.getElem?_eq_getElem hk
  rw [he] at hL
  have hLe : L[k] = e := by simpa using hL.symm
  have hsplit : L = L.take k ++ L[k] :: L.drop (k + 1) := by
    rw [← List.drop_eq_getElem_cons hk, List.take_append_drop]
  rw [hLe] at hsplit
  conv => lhs; rw [hsplit]
  rw [fa_app n kd _ _ f hg]
  rfl
set_option maxHeartbeats 8000000 in
theorem ask_any (n sn rl p ec : Nat) (made kd f : Int) (a : Option Addr) (L : List T3) (hp : p ≤ 2) (hn : n < 4294967296) (hs : sn ≤ 140737488351232) (hr : rl ≤ 5000) (hl : L.length ≤ 140737488351232) (hk : kd = 0 ∨ kd = 1 ∨ kd = 2 ∨ made ≠ 0) (w : World) (hE : Row3 .u32 w a L) :
    Calls Try.prog 50 #[.int .i64 made, .int .u32 (n : Int), .int .i64 (sn : Int), .int .i64 (rl : Int), .int .i64 ((p * n : Nat) : Int), .int .i64 kd, .slice a L.length ec, .int .i64 f] w fun e w' => e = .returned (.int .i64 (dk made n sn rl p kd L f)) ∧ w' = w := by
  have HE := hide hE
  have hcv : IntKind.i64.wrap (n : Int) = n := by simp only [IntKind.wrap, IntKind.signed, IntKind.bits]; simp; omega
  have hpn : p * n ≤ 2 * n := Nat.mul_le_mul_right n hp
  obtain ⟨m, hpm⟩ : ∃ m, p * n = m := ⟨_, rfl⟩
  unfold dk ak
  rw [hpm] at hpn ⊢
  clear hE
  by_cases h1 : made = 0
  · have hm1 : (made != 0) = false := by simpa using h1
    rw [if_neg (show ¬ made ≠ 0 by simpa using h1)]
    by_cases h2 : sn = n
    · have hm2 : ((sn : Int) != (n : Int)) = false := by simp; omega
      rw [if_neg (show ¬ sn ≠ n by simpa using h2)]
      by_cases h3 : rl < m
      · have hm3 : (rl : Int) < (m : Int) := by omega
        rw [if_pos h3, if_pos (by decide)]
        clear h1 h2 h3 hk hpm hpn
        go_enter Try.func50, Try.ntmps50
        go_wp2
        all_goals go_ret
        all_goals exact ⟨rfl, rfl⟩
      · have hm3 : ¬ (rl : Int) < (m : Int) := by omega
        rw [if_neg h3, if_neg (by decide)]
        have hk' : kd = 0 ∨ kd = 1 ∨ kd = 2 := by
          rcases hk with h | h | h | h
          · exact .inl h
          · exact .inr (.inl h)
          · exact .inr (.inr h)
          · exact absurd h1 h
        clear h1 h2 h3 hk hpm hpn
        go_enter Try.func50, Try.ntmps50
        go_wp2_with (fail)
        go_loopw [17] (fun t wr => ∃ k : Nat, k ≤ L.length ∧ t = .int .i64 k ∧ Hid (∀ x ∈ L.take k, bad n kd x = 0) ∧ wr = w) (fun t _ => L.length - (intOf t).toNat)
        case atStart => exact ⟨0, Nat.zero_le _, rfl, fun x hx => by simp at hx, rfl⟩
        case round =>
          obtain ⟨k, hkl, rfl, HG, rfl⟩ := hrel
          by_cases cc : k < L.length
          · have hcc : (k : Int) < (L.length : Int) := by omega
            obtain ⟨e, he⟩ : ∃ e, L[k]? = some e := ⟨L[k], List.getElem?_eq_getElem cc⟩
            obtain ⟨x, rfl, hx⟩ := HE.out (by omega)
            obtain ⟨q0, q1, q2⟩ := cells3 (hx.2 k e he)
            have hst := fa_step n kd L f k cc e he HG.out
            have HGn : Hid (bad n kd e = 0 → ∀ x ∈ L.take (k + 1), bad n kd x = 0) := fun hb x hx => by
              rw [List.take_add_one, he] at hx
              rcases List.mem_append.1 hx with h | h
              · exact HG.out x h
              · simp at h; rw [h]; exact hb
            clear hx
            by_cases hb1 : (n : Int) ≤ e.1
            · have hbd : bad n kd e = 91 := by unfold bad bz; rw [if_pos (Or.inl hb1)]
              rw [hbd, if_neg (by decide)] at hst
              have HSt := hide hst
              clear hst hbd HGn
              go_wp2
              all_goals go_ret
              all_goals exact ⟨ret_int HSt.out.symm, by first | rfl | trivial⟩
            · by_cases hb2 : (n : Int) ≤ e.2.1
              · have hbd : bad n kd e = 91 := by unfold bad bz; rw [if_pos (Or.inr hb2)]
                rw [hbd, if_neg (by decide)] at hst
                have HSt := hide hst
                clear hst hbd HGn
                go_wp2
                all_goals go_ret
                all_goals exact ⟨ret_int HSt.out.symm, by first | rfl | trivial⟩
              · have hbd : bad n kd e = if wg kd e.2.2 = true then 0 else 95 := by unfold bad bz; rw [if_neg (by simp; omega)]
                by_cases hk0 : kd = 0
                · subst hk0
                  have hb0 : bad n 0 e = 0 := by rw [hbd]; rfl
                  have HG1 := hide (HGn.out hb0)
                  clear hst hbd HGn hb0
                  go_wp2
                  all_goals exact ⟨⟨k + 1, cc, by go_num, HG1, by first | rfl | trivial⟩, by simp [intOf]; omega⟩
                · have hkb : (kd == 0) = false := by simpa using hk0
                  have HW := hide (weighs_any kd e.2.2 (hk'.resolve_left hk0))
                  cases hwg : wg kd e.2.2 with
                  | true =>
                    have hb0 : bad n kd e = 0 := by rw [hbd, hwg]; rfl
                    have HG1 := hide (HGn.out hb0)
                    rw [hwg] at HW
                    clear hst hbd HGn hb0 hwg hk0 hk'
                    go_wp2_with (fail)
                    refine (HW.out _).mono ?_
                    rintro e5 w5 ⟨rfl, rfl⟩
                    go_wp2
                    all_goals exact ⟨⟨k + 1, cc, by go_num, HG1, by first | rfl | trivial⟩, by simp [intOf]; omega⟩
                  | false =>
                    have hb0 : bad n kd e = 95 := by rw [hbd, hwg]; rfl
                    rw [hwg] at HW
                    rw [hb0, if_neg (by decide)] at hst
                    have HSt := hide hst
                    clear hst hbd HGn hb0 hwg hk0 hk'
                    go_wp2_with (fail)
                    refine (HW.out _).mono ?_
                    rintro e5 w5 ⟨rfl, rfl⟩
                    go_wp2
                    all_goals go_ret
                    all_goals exact ⟨ret_int HSt.out.symm, by first | rfl | trivial⟩
          · have hcc : ¬ (k : Int) < (L.length : Int) := by omega
            have hkl2 : k = L.length := by omega
            have hfa : fa n kd L f = f := by
              have := fa_app n kd L [] f (fun x hx => HG.out x (by rw [hkl2, List.take_length]; exact hx))
              rw [List.append_nil] at this
              exact this
            have HSt := hide hfa
            clear hfa hkl2
            go_wp2
            all_goals go_ret
            all_goals exact ⟨ret_int HSt.out.symm, by first | rfl | trivial⟩
    · have hm2 : ((sn : Int) != (n : Int)) = true := by simp; omega
      rw [if_pos h2, if_pos (by decide)]
      clear h1 h2 hk hpm hpn
      go_enter Try.func50, Try.ntmps50
      go_wp2
      all_goals go_ret
      all_goals exact ⟨rfl, rfl⟩
  · have hm1 : (made != 0) = true := by simpa using h1
    rw [if_pos h1, if_pos h1]
    clear h1 hk hpm hpn
    go_enter Try.func50, Try.ntmps50
    go_wp2
    all_goals go_ret
    all_goals exact ⟨rfl, rfl⟩
end Au
end Go.Proofs.Ytcepfmeoeepjdaa
