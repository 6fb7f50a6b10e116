import Derived.Test.YtlhpnhjfibkgpabWsB
namespace Go.Proofs.Ytlhpnhjfibkgpab
namespace Wp
open Go.RowKit
set_option linter.unusedVariables false
set_option maxRecDepth 8000
theorem info_w : ∃ i0, Try.prog.info? 34 = some i0 ∧ i0.zero = some (.int .u64 0) ∧ i0.size = 1 ∧ i0.bytes = 8 := by
  have h := infoW
  cases hh : Try.prog.info? 34 with
  | none => rw [hh] at h; cases h
  | some i => rw [hh] at h; simp at h; exact ⟨i, rfl, h.1, h.2.1, h.2.2⟩
theorem wpList_append1 {w : World} {ops : Array Oper} {rest : List Oper} {o : Oper} {a : Act} {Q : Exit → Act → World → Prop} (hgd : o.guard = none) (s x : Operand)
    (ho : o.op = .call { callee := .builtin .append, args := #[s, x], argTypes := #[43, 43] }) (base : Nat) (v : Value) (n : Nat) (xs : List Value) (ad : Addr) (c : Nat) (y : Int) (hs : a.eval s = v) (hown : w.ownsRow base 34 1 v n xs)
    (hx : a.eval x = .slice (some ad) 1 c) (hc : w.cell? ad = some (.int .u64 y)) (h63 : n ≤ 1000000) (hbase : base ≤ w.heap.size)
    (h : ∀ v' w', w'.ownsRow base 34 1 v' (n + 1) (xs ++ [.int .u64 y]) → w.grownBy w' v.ownBlock → wpList Try.prog ops Q rest (a.put o.dst v') w') : wpList Try.prog ops Q (o :: rest) a w := by
  obtain ⟨i0, hi, hz0, hz1, hz2⟩ := info_w
  exact wpList_append_own_at w hgd s x 43 ho base 34 i0 (.int .u64 0) 1 8 Try.underlying43 hi hz0 hz1 hz2 rfl (by decide) v n xs hs hown ad 1 c [.int .u64 y] hx rfl (fun j u hj => by
    match j, hj with
    | 0, hj => simp at hj; subst hj; rw [show ad.add 0 = ad from by unfold Addr.add; cases ad; simp]; exact hc) (fun u hu => by simp at hu; subst hu; rfl) (by unfold maxLen; omega) (by omega) hbase (fun v' w' h2 h3 _ h5 => h v' w' h2 h3)
def cu (G : Nat → Int) : Nat → List Value
  | 0 => []
  | k + 1 => cu G k ++ [.int .u64 (G k)]
theorem cu_len (G : Nat → Int) (k : Nat) : (cu G k).length = k := by
  induction k with
  | zero => rfl
  | succ k ih => simp only [cu, List.length_append, ih]; rfl
theorem cu_get (G : Nat → Int) (k i : Nat) (hi : i < k) : (cu G k)[i]? = some (.int .u64 (G i)) := by
  induction k with
  | zero => omega
  | succ k ih =>
    simp only [cu]
    by_cases h : i < k
    · rw [List.getElem?_append_left (by rw [cu_len]; omega)]; exact ih h
    · have hk : i = k := by omega
      subst hk
      rw [List.getElem?_append_right (by rw [cu_len]; omega), cu_len, Nat.sub_self]; rfl
theorem own_gu {w : World} {B : Nat} {v : Value} {n : Nat} {G : Nat → Int} (h : w.ownsRow B 34 1 v n (cu G n)) (hn : 0 < n) : ∃ g cap, v = .slice (some ⟨g, 0, none⟩) n cap ∧ B ≤ g ∧ GU w g n G := by
  obtain ⟨h1, h2⟩ := h
  rcases h2 with ⟨rfl, h0⟩ | ⟨g, cap, cur, rfl, h3, h4, h5, h6, h7, h8⟩
  · omega
  · refine ⟨g, cap, rfl, h3, cur, h4, fun u hu => ?_⟩
    have hg := cu_get G n u hu
    rw [← h8, List.getElem?_take, if_pos (by omega)] at hg
    simpa using hg
set_option maxHeartbeats 4000000 in
theorem word_any (sb n cap : Nat) (A C : Nat → Int) (k u : Int) (S : Nat → Nat → Int) (h1 : 1 ≤ n) (hn : n ≤ 1000) (w : World) (hS : SR w sb n S) :
    Calls Try.prog 12 #[.agg (rc (.slice (some ⟨sb, 0, none⟩) n cap) A C k u), .int .i64 0] w fun e w' => ∃ g c', e = .returned (.slice (some ⟨g, 0, none⟩) n c') ∧ GU w' g n (fun v => S v 0) ∧ Below w.heap.size w w' := by
  have HS := hide hS
  have HX : Hid (Below w.heap.size w (w.alloc (.cells (rc (.slice (some ⟨sb, 0, none⟩) n cap) A C k u) 40))) := b1 _ _ _
  have HR0 : Hid (Rn (w.alloc (.cells (rc (.slice (some ⟨sb, 0, none⟩) n cap) A C k u) 40)) w.heap.size (.slice (some ⟨sb, 0, none⟩) n cap) A C k u) := at0 _ _
  clear hS
  go_enter Try.func12, Try.ntmps12
  go_wp2_with (fail)
  generalize w.alloc (.cells (rc (.slice (some ⟨sb, 0, none⟩) n cap) A C k u) 40) = w0 at *
  go_loopw [5, 6] (fun v t wr => ∃ j : Nat, j ≤ n ∧ t = .int .i64 j ∧ Hid (wr.ownsRow (w.heap.size + 1) 34 1 v j (cu (fun v => S v 0) j)) ∧ Hid (Rn wr w.heap.size (.slice (some ⟨sb, 0, none⟩) n cap) A C k u) ∧ Hid (Below w.heap.size w wr)) (fun _ t _ => n - (intOf t).toNat)
  case atStart => exact ⟨0, Nat.zero_le _, rfl, World.ownsRow_nil _ _ _ _, HR0, HX⟩
  case round =>
    clear HR0 HX
    obtain ⟨j, hj, rfl, HO, HR, HB⟩ := hrel
    have hk := HR.out.kr.1
    by_cases cc : j < n
    · have HSr := hide (HS.out.on HB.out)
      have hc := (HSr.out.k8 j cc).1
      have HZ := hide HR.out.lt
      go_wp2_with (first | (refine wpList_append1 rfl _ _ rfl (w.heap.size + 1) u5 j (cu (fun v => S v 0) j) ⟨wr.heap.size, 0, none⟩ 1 (S j 0) rfl (HO.out.alloc _) rfl (cell_new wr _ _ 34 0 _ rfl rfl) (by omega) (by rw [World.size_alloc]; have := HZ.out; omega) ?_; intro v7 w7 hown7 hgr7) | fail)
      have HN5 : Hid (some w.heap.size ≠ u5.ownBlock) := fun e => by have := (World.ownsRow.lt HO.out _ e.symm).1; omega
      have HB6 : Hid (Below w.heap.size w (wr.alloc (.cells #[.int .u64 (S j 0)] 34))) := bA HB.out HB.out.size _
      have HB7 : Hid (Below w.heap.size w w7) := HB6.out.grown hgr7 HB6.out.size (fun q hq => by have := (World.ownsRow.lt HO.out q hq).1; omega)
      have HR7 : Hid (Rn w7 w.heap.size (.slice (some ⟨sb, 0, none⟩) n cap) A C k u) := (HR.out.on (b1 _ _ _)).of (hgr7.block _ (by rw [World.size_alloc]; have := HZ.out; omega) HN5.out)
      exact ⟨⟨j + 1, cc, by go_num, hown7, HR7, HB7⟩, by simp [intOf]; omega⟩
    · have hjn : n = j := by omega
      subst hjn
      obtain ⟨g, c', rfl, _, hG⟩ := own_gu HO.out h1
      have HG := hide hG
      clear cc hj hG
      go_wp2
      all_goals go_ret
      all_goals exact ⟨g, c', rfl, HG.out, HB.out⟩
set_option maxHeartbeats 4000000 in
theorem same_any (g1 g2 n c1 c2 : Nat) (G : Nat → Int) (hn : n ≤ 1000) (w : World) (h1 : GU w g1 n G) (h2 : GU w g2 n G) :
    Calls Try.prog 11 #[.slice (some ⟨g1, 0, none⟩) n c1, .slice (some ⟨g2, 0, none⟩) n c2] w fun e w' => e = .returned (.bool true) ∧ Below w.heap.size w w' := by
  have H1 := hide h1
  have H2 := hide h2
  clear h1 h2
  go_enter Try.func11, Try.ntmps11
  go_wp2_with (fail)
  go_loopw [5] (fun t wr => ∃ j : Nat, j ≤ n ∧ t = .int .i64 j ∧ Hid (Below w.heap.size w wr)) (fun t _ => n - (intOf t).toNat)
  case atStart => exact ⟨0, Nat.zero_le _, rfl, Below.refl _ _⟩
  case round =>
    obtain ⟨j, hj, rfl, HB⟩ := hrel
    by_cases cc : j < n
    · have k1 : wr.drew.cell? ⟨g1, j, none⟩ = some (.int .u64 (G j)) := (H1.out.on HB.out).cell j cc
      have k2 : wr.drew.cell? ⟨g2, j, none⟩ = some (.int .u64 (G j)) := (H2.out.on HB.out).cell j cc
      go_wp2_with (fail)
      go_region
      all_goals go_wp2
      all_goals exact ⟨⟨j + 1, cc, by go_num, belowD HB.out⟩, by simp [intOf]; omega⟩
    · have hjn : n = j := by omega
      subst hjn
      clear cc hj
      go_wp2
      all_goals go_ret
      all_goals exact ⟨rfl, HB.out⟩
end Wp
end Go.Proofs.Ytlhpnhjfibkgpab
