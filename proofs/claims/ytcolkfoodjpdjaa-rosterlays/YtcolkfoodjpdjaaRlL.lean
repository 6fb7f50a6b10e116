import Derived.Test.YtcolkfoodjpdjaaRlK
namespace Go.Proofs.Ytcolkfoodjpdjaa
namespace Rl
open Go.RowKit Ra
set_option linter.unusedVariables false
theorem src4 (w : World) (N : Nat) (hN : w.heap.size = N) (p q r s : Value) (t : TypeId) (hp : p.oneCell' = true) (hq : q.oneCell' = true) (hr : r.oneCell' = true) (hs : s.oneCell' = true) (c : Nat) : Src (w.alloc (.cells #[p, q, r, s] t)) (.slice (some ⟨N, 0, none⟩) 2 c) 2 [p, q, r, s] := by
  subst hN
  refine Or.inr ⟨_, _, rfl, rfl, ?_, ?_⟩
  · intro j u hj
    match j, hj with
    | 0, hj => simp at hj; subst hj; exact cell_new _ _ _ _ _ _ rfl rfl
    | 1, hj => simp at hj; subst hj; exact cell_new _ _ _ _ _ _ rfl rfl
    | 2, hj => simp at hj; subst hj; exact cell_new _ _ _ _ _ _ rfl rfl
    | 3, hj => simp at hj; subst hj; exact cell_new _ _ _ _ _ _ rfl rfl
  · intro u hu; simp at hu; rcases hu with rfl | rfl | rfl | rfl <;> assumption
theorem own_shape {w : World} {B e s n : Nat} {v : Value} {xs : List Value} (h : w.ownsRow B e s v n xs) : ∃ a c, v = .slice a n c ∧ (0 < n → ∃ g, a = some ⟨g, 0, none⟩) := by
  rcases h.2 with ⟨rfl, hn⟩ | ⟨g, cap, cur, rfl, _⟩
  · exact ⟨none, 0, by rw [hn], fun h => by omega⟩
  · exact ⟨_, _, rfl, fun _ => ⟨g, rfl⟩⟩
set_option maxHeartbeats 3200000 in
set_option maxRecDepth 8000 in
theorem spoil_row (g l cap B1 B2 : Nat) (ys : List Value) (w : World) (hl : l ≤ 900000) (h : SP w B1 B2 g l cap 0 ys w) :
    Calls Try.prog 13 #[.slice (some ⟨g, 0, none⟩) l cap] w fun e w' => e = .returned (.tuple #[]) ∧ Kp B1 B2 w w' := by
  have H : Hid (SP w B1 B2 g l cap 0 ys w) := h
  clear h
  go_enter Try.func13, Try.ntmps13
  go_wp2
  go_loopw [2] (fun i wr => ∃ (k : Nat) (ys : List Value), k ≤ l ∧ i = .int .i64 k ∧ SP w B1 B2 g l cap k ys wr) (fun i _ => l - (intOf i).toNat)
  case atStart => exact ⟨0, ys, Nat.zero_le _, rfl, H.out⟩
  case round =>
    obtain ⟨k, ys, hk, rfl, hS⟩ := hrel
    by_cases hlt : k < l
    · obtain ⟨u, m, xs, q1, q2, q3, q4⟩ := hS.en k (Nat.le_refl _) hlt
      obtain ⟨ua, uc, rfl, hua⟩ := own_shape q2
      have C0 := own_cell hS.row q1
      have HS : Hid (SP w B1 B2 g l cap k ys wr) := hS
      clear hS q2 q4
      go_wp2
      go_loopw [3] (fun j wi => ∃ n : Nat, n ≤ m ∧ j = .int .i64 n ∧ SP w B1 B2 g l cap k ys wi) (fun j _ => m - (intOf j).toNat)
      case atStart => exact ⟨0, Nat.zero_le _, rfl, HS.out⟩
      case round =>
        clear C0 HS
        obtain ⟨n, hn, rfl, hS⟩ := hrel
        have C0 := own_cell hS.row q1
        by_cases hnm : n < m
        · obtain ⟨gk, rfl⟩ := hua (by omega)
          obtain ⟨u', m', xs', r1, r2, r3, r4⟩ := hS.en k (Nat.le_refl _) hlt
          rw [q1] at r1; cases r1
          have hm : m' = m := by
            rcases r2.2 with ⟨e, _⟩ | ⟨_, _, _, e, _⟩
            · cases e
            · cases e; rfl
          subst hm
          have hlx : xs'.length = m' * 2 := r2.1
          have E0 := own_cell r2 (List.getElem?_eq_getElem (show n * 2 < xs'.length by omega))
          have E1 := own_cell r2 (List.getElem?_eq_getElem (show n * 2 + 1 < xs'.length by omega))
          have F0 := own_frozen r2 (n * 2)
          have F1 := own_frozen r2 (n * 2 + 1)
          have HN := hid ((hS.write (j := n * 2) (x := .string ⟨#[115, 112, 111, 105, 108, 116]⟩) hlt q1 rfl).write (j := n * 2 + 1) (x := .string ⟨#[115, 112, 111, 105, 108, 116]⟩) hlt q1 rfl)
          clear hS r2 r4
          go_wp2
          exact ⟨⟨n + 1, by omega, by go_num, HN.out⟩, by simp [intOf]; omega⟩
        · obtain rfl : n = m := by omega
          have HS := hid hS
          obtain ⟨u', m', xs', r1, r2, r3, r4⟩ := hS.en k (Nat.le_refl _) hlt
          rw [q1] at r1; cases r1
          have hm : m' = n := by
            rcases r2.2 with ⟨e, e0⟩ | ⟨_, _, _, e, _⟩
            · cases e; exact e0
            · cases e; rfl
          subst hm
          have hbs := (HS.out.kp).size
          have hB1 : B1 ≤ wr.heap.size := Nat.le_trans (hS.row.lt g rfl).1 (Nat.le_of_lt (hS.row.lt g rfl).2)
          have HR := hid r2
          clear hS r2 r4 hnm
          go_wp2_with (at_builtin; refine wpList_append2 tpE rfl _ _ rfl B1 _ _ m' 2 xs' [.string ⟨#[109, 111, 114, 101]⟩, .string ⟨#[]⟩, .string ⟨#[109, 111, 114, 101]⟩, .string ⟨#[]⟩] rfl (HR.out.alloc _) rfl (src4 _ _ rfl _ _ _ _ _ rfl rfl rfl rfl _) (by omega) (by simp; omega) ?_)
          intro v' w1 hown' hgr' _
          obtain ⟨g', cap', rfl⟩ := ownsRow_succ (k := m' + 1) hown'
          obtain ⟨⟨hc1, hf1⟩, hS2⟩ := SP.longer (v' := .slice (some ⟨g', 0, none⟩) (m' + 1 + 1) cap') HS.out hlt q1 rfl ((Below.refl _ _).alloc (Nat.le_refl _) _) (HS.out.kp.alloc _) hgr'
          have HS2 := hid hS2
          clear hown' hgr' hS2 HR HS C0
          go_wp2
          go_roundw
          case rel => exact ⟨k + 1, _, by omega, by go_num, HS2.out⟩
          case measure => simp [intOf]; omega
    · obtain rfl : k = l := by omega
      have HS : Hid (wr.ownsRow B1 37 2 (.slice (some ⟨g, 0, none⟩) k cap) k ys ∧ Kp B1 B2 w wr) := ⟨hS.row, hS.kp⟩
      have hgb := hS.gb
      have hg1 := (hS.row.lt g rfl).1
      clear hS H
      go_wp2
      go_loopw [4] (fun i wi => ∃ (n : Nat) (zs : List Value), n ≤ k ∧ i = .int .i64 n ∧ wi.ownsRow B1 37 2 (.slice (some ⟨g, 0, none⟩) k cap) k zs ∧ Kp B1 B2 w wi) (fun i _ => k - (intOf i).toNat)
      case atStart => exact ⟨0, ys, Nat.zero_le _, rfl, HS.out⟩
      case round =>
        clear HS
        obtain ⟨n, zs, hn, rfl, hR, hK⟩ := hrel
        by_cases hnk : n < k
        · have hlz : zs.length = k * 2 := hR.1
          have E0 := own_cell hR (List.getElem?_eq_getElem (show n * 2 < zs.length by omega))
          have F0 := own_frozen hR (n * 2)
          have HN := hid (own_set (j := n * 2) (u := .string ⟨#[115, 112, 111, 105, 108, 116]⟩) hR rfl)
          have HK := hid (hK.set (j := n * 2) hg1 hgb (.string ⟨#[115, 112, 111, 105, 108, 116]⟩))
          clear hR hK
          go_wp2
          exact ⟨⟨n + 1, _, by omega, by go_num, HN.out, HK.out⟩, by simp [intOf]; omega⟩
        · obtain rfl : n = k := by omega
          go_wp2
          go_returns
          exact ⟨rfl, hK⟩
end Rl
end Go.Proofs.Ytcolkfoodjpdjaa
