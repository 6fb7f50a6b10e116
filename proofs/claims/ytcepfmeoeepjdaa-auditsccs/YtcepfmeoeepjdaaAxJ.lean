import Derived.Test.YtcepfmeoeepjdaaAxI
namespace Go.Proofs.Ytcepfmeoeepjdaa
namespace Au
open Go.RowKit
set_option linter.unusedVariables false
set_option maxRecDepth 8000
def Tp1 (t e : TypeId) : Prop := Try.prog.underlying t = some (.slice e) ∧ ∃ i z, Try.prog.info? e = some i ∧ i.zero = some z ∧ i.size = 1 ∧ i.bytes = 8 ∧ z.cells.size = 1
theorem tp1 : Tp1 32 28 := by
  refine ⟨Try.underlying32, ?_⟩
  have h := infoW
  cases hh : Try.prog.info? 28 with
  | none => rw [hh] at h; cases h
  | some i =>
    rw [hh] at h
    simp at h
    exact ⟨i, .int .u64 0, rfl, h.1, h.2.1, h.2.2, rfl⟩
theorem wpList_append1 {t e : TypeId} (hT : Tp1 t e) {w : World} {ops : Array Oper} {rest : List Oper} {o : Oper} {a : Act} {Q : Exit → Act → World → Prop} (hgd : o.guard = none) (s x : Operand)
    (ho : o.op = .call { callee := .builtin .append, args := #[s, x], argTypes := #[t, t] }) (base : Nat) (v : Value) (n : Nat) (xs : List Value) (y : Int) (g c : Nat) (hs : a.eval s = v) (hown : w.ownsRow base e 1 v n xs)
    (hx : a.eval x = .slice (some ⟨g, 0, none⟩) 1 c) (hsrc : w.cell? ⟨g, 0, none⟩ = some (.int .u64 y)) (h63 : (n + 1) * 8 ≤ 140737488355328) (hbase : base ≤ w.heap.size)
    (h : ∀ v' w', w'.ownsRow base e 1 v' (n + 1) (xs ++ [.int .u64 y]) → w.grownBy w' v.ownBlock → wpList Try.prog ops Q rest (a.put o.dst v') w') : wpList Try.prog ops Q (o :: rest) a w := by
  obtain ⟨hu, i0, z, hi, hz0, hz1, hz2, hz3⟩ := hT
  exact wpList_append_own_at w hgd s x t ho base e i0 z 1 8 hu hi hz0 hz1 hz2 hz3 (by decide) v n xs hs hown ⟨g, 0, none⟩ 1 c [.int .u64 y] hx rfl (fun j u hj => by
    have hj0 : j = 0 := by have := (List.getElem?_eq_some_iff.1 hj).1; simp at this; exact this
    subst hj0
    simp at hj
    rw [add0, ← hj]; exact hsrc) (fun u hu => by simp at hu; rw [hu]; rfl) (by unfold maxLen; omega) (by omega) hbase (fun v' w' h2 h3 _ h5 => h v' w' h2 h3)
/-- A list of words of our own. -/
def Lw (w : World) (B : Nat) (v : Value) (X : List Int) : Prop := w.ownsRow B 28 1 v X.length (X.map (fun x => .int .u64 x))
theorem Lw.nil (w : World) (B : Nat) : Lw w B (.slice none 0 0) [] := ⟨rfl, .inl ⟨rfl, rfl⟩⟩
theorem Lw.len {w : World} {B : Nat} {v : Value} {X : List Int} (h : Lw w B v X) : (∃ a c, v = .slice a X.length c) := by
  rcases h.2 with ⟨rfl, h0⟩ | ⟨g, cap, cur, rfl, _⟩
  · rw [h0]; exact ⟨_, _, rfl⟩
  · exact ⟨_, _, rfl⟩
theorem Lw.of {w w' : World} {B : Nat} {v : Value} {X : List Int} (h : Lw w B v X) (hb : ∀ g, v.ownBlock = some g → w'.heap[g]? = w.heap[g]?) : Lw w' B v X := by
  obtain ⟨h1, h2⟩ := h
  refine ⟨h1, ?_⟩
  rcases h2 with h2 | ⟨g, cap, cur, rfl, a, b, c⟩
  · exact .inl h2
  · exact .inr ⟨g, cap, cur, rfl, a, (hb g rfl).trans b, c⟩
theorem Lw.lt {w : World} {B : Nat} {v : Value} {X : List Int} (h : Lw w B v X) {g : Nat} (hg : v.ownBlock = some g) : B ≤ g ∧ g < w.heap.size := by
  rcases h.2 with ⟨rfl, _⟩ | ⟨g', cap, cur, rfl, a, b, c⟩
  · cases hg
  · cases hg; exact ⟨a, lt_of_some b⟩
theorem Lw.on {w w' : World} {B N : Nat} {v : Value} {X : List Int} (h : Lw w B v X) (hb : Below N w w') (hN : w.heap.size ≤ N) : Lw w' B v X := h.of (fun g hg => hb.block g (by have := (h.lt hg).2; omega))
theorem Lw.grown {w w' : World} {B B2 : Nat} {v u : Value} {X Y : List Int} (h : Lw w B v X) (hu : Lw w B2 u Y) (hg : w.grownBy w' u.ownBlock) (hb : ∀ g, v.ownBlock = some g → g < B2) : Lw w' B v X := h.of (fun g e => hg.block g (h.lt e).2 (fun e2 => by have := (hu.lt e2.symm).1; have := hb g e; omega))
theorem Lw.mono {w : World} {B B' : Nat} {v : Value} {X : List Int} (h : Lw w B v X) (hb : B' ≤ B) : Lw w B' v X := by
  obtain ⟨h1, h2⟩ := h
  refine ⟨h1, ?_⟩
  rcases h2 with h2 | ⟨g, cap, cur, rfl, a, b, c⟩
  · exact .inl h2
  · exact .inr ⟨g, cap, cur, rfl, by omega, b, c⟩
theorem Lw.app {w : World} {B : Nat} {v : Value} {X : List Int} {x : Int} (h : w.ownsRow B 28 1 v (X.length + 1) (X.map (fun x => .int .u64 x) ++ [.int .u64 x])) : Lw w B v (X ++ [x]) := by
  unfold Lw
  rw [List.length_append, List.map_append]
  exact h
theorem Lw.cell {w : World} {B : Nat} {v : Value} {X : List Int} (h : Lw w B v X) (i : Nat) (x : Int) (hi : X[i]? = some x) : ∃ g c, v = .slice (some ⟨g, 0, none⟩) X.length c ∧ w.cell? ⟨g, i, none⟩ = some (.int .u64 x) := by
  have hl := (List.getElem?_eq_some_iff.1 hi).1
  rcases h.2 with ⟨_, h0⟩ | ⟨g, cap, cur, rfl, a, b, c, d, e, f⟩
  · omega
  · refine ⟨g, cap, rfl, ?_⟩
    rw [cell_of_row w g _ _ 28 (0, 0) b]
    have : (cur.toList.take (X.length * 1))[i]? = some (.int .u64 x) := by rw [f, List.getElem?_map, hi]; rfl
    rw [List.getElem?_take, if_pos (by omega)] at this
    simpa using this
def ln (v : Value) : Nat := match v with | .slice _ n _ => n | _ => 0
set_option maxHeartbeats 4000000 in
theorem has_any (B : Nat) (v : Value) (X : List Int) (x : Int) (hl : X.length ≤ 140737488351232) (w : World) (h : Lw w B v X) : Calls Try.prog 115 #[v, .int .u64 x] w fun e w' => e = .returned (.bool (decide (x ∈ X))) ∧ w' = w := by
  obtain ⟨a, c, hv⟩ := h.len
  have HL := hide h
  clear h
  subst hv
  go_enter Try.func115, Try.ntmps115
  go_wp2_with (fail)
  go_loop [5] (fun t => ∃ i : Nat, i ≤ X.length ∧ t = .int .i64 i ∧ Hid (¬ x ∈ X.take i)) (fun t => X.length - (intOf t).toNat)
  case atStart => exact ⟨0, Nat.zero_le _, rfl, (show ¬ x ∈ X.take 0 by simp)⟩
  case round =>
    obtain ⟨i, hi, rfl, HC⟩ := hrel
    by_cases cc : i < X.length
    · have hcc : (i : Int) < (X.length : Int) := by omega
      obtain ⟨y, hy⟩ : ∃ y, X[i]? = some y := ⟨X[i], List.getElem?_eq_getElem cc⟩
      obtain ⟨g, c', he, hc⟩ := HL.out.cell i y hy
      cases he
      have htk : X.take (i + 1) = X.take i ++ [y] := by rw [List.take_add_one, hy]; rfl
      cases hxy : (y == x) with
      | true =>
        have HT : Hid (decide (x ∈ X) = true) := by
          show _ = _
          have : y = x := by simpa using hxy
          subst this
          simpa using List.mem_of_getElem? hy
        go_wp2
        all_goals go_ret
        all_goals exact ⟨ret_bool HT.out.symm, by first | rfl | trivial⟩
      | false =>
        have HC1 : Hid (¬ x ∈ X.take (i + 1)) := by
          show ¬ _
          rw [htk]
          have h1 := HC.out
          have hyx : ¬ x = y := fun e => by subst e; simp at hxy
          simp only [List.mem_append, List.mem_singleton, not_or]
          exact ⟨h1, hyx⟩
        clear htk
        go_wp2
        all_goals exact ⟨⟨i + 1, cc, by go_num, HC1⟩, by simp [intOf]; omega⟩
    · have hcc : ¬ (i : Int) < (X.length : Int) := by omega
      have hie : X.length = i := by omega
      have HT : Hid (decide (x ∈ X) = false) := by
        have h1 := HC.out
        rw [← hie, List.take_length] at h1
        show _ = _
        simpa using h1
      clear hie
      go_wp2
      all_goals go_ret
      all_goals exact ⟨ret_bool HT.out.symm, by first | rfl | trivial⟩
end Au
end Go.Proofs.Ytcepfmeoeepjdaa
