import Derived.Test.YtlkipgpfjpmliaaFtA
import Derived.Laws.AppendOwnNone
import Derived.Maps.AppendAt
namespace Go.Proofs.Ytlkipgpfjpmliaa
namespace Ft
open Go.RowKit
set_option linter.unusedVariables false
set_option maxRecDepth 8000
theorem infoU : (Try.prog.info? 25).map (fun i => (i.zero, i.size, i.bytes)) = some (some (.int .u32 0), 1, 4) := by kernel_rfl
theorem info_u : ∃ i0, Try.prog.info? 25 = some i0 ∧ i0.zero = some (.int .u32 0) ∧ i0.size = 1 ∧ i0.bytes = 4 := by
  have h := infoU
  cases hh : Try.prog.info? 25 with
  | none => rw [hh] at h; cases h
  | some i => rw [hh] at h; simp at h; exact ⟨i, rfl, h.1, h.2.1, h.2.2⟩
/-- Numbers as values. -/
def us (xs : List Int) : List Value := xs.map (Value.int .u32)
theorem us_get {xs : List Int} {i : Nat} {e : Int} (h : xs[i]? = some e) : (us xs)[i]? = some (.int .u32 e) := by simp [us, h]
theorem us_one (xs : List Int) : ∀ u ∈ us xs, u.oneCell' = true := by
  intro u hu
  simp only [us, List.mem_map] at hu
  obtain ⟨x, _, rfl⟩ := hu; rfl
theorem us_len (xs : List Int) : (us xs).length = xs.length := by simp [us]
/-- A list of the call's own. -/
def UL (w : World) (B : Nat) (v : Value) (xs : List Int) : Prop := w.ownsRow B 25 1 v xs.length (us xs)
/-- What an append takes: nothing, or cells that lie somewhere. -/
def Src (w : World) (sv : Value) (m : Nat) (news : List Value) : Prop :=
  (sv = .slice none 0 0 ∧ m = 0 ∧ news = []) ∨ ∃ ad c, sv = .slice (some ad) m c ∧ news.length = m ∧ (∀ j u, news[j]? = some u → w.cell? (ad.add j) = some u) ∧ ∀ u ∈ news, u.oneCell' = true
theorem grown_refl (w : World) (r : Option Nat) : w.grownBy w r := ⟨rfl, rfl, rfl, Nat.le_refl _, fun _ _ _ => rfl⟩
theorem wpList_append_src {w : World} {ops : Array Oper} {rest : List Oper} {o : Oper} {a : Act} {Q : Exit → Act → World → Prop} (hgd : o.guard = none) (s x : Operand)
    (ho : o.op = .call { callee := .builtin .append, args := #[s, x], argTypes := #[58, 58] }) (base : Nat) (v sv : Value) (n m : Nat) (xs news : List Value) (hs : a.eval s = v) (hown : w.ownsRow base 25 1 v n xs)
    (hx : a.eval x = sv) (hsrc : Src w sv m news) (h63 : n + m ≤ 35184372088832) (hbase : base ≤ w.heap.size)
    (h : ∀ v' w', w'.ownsRow base 25 1 v' (n + m) (xs ++ news) → w.grownBy w' v.ownBlock → (v'.ownBlock = v.ownBlock ∨ v'.ownBlock = some w.heap.size) → wpList Try.prog ops Q rest (a.put o.dst v') w') : wpList Try.prog ops Q (o :: rest) a w := by
  obtain ⟨i0, hi, hz0, hz1, hz2⟩ := info_u
  rcases hsrc with ⟨rfl, rfl, rfl⟩ | ⟨ad, c, rfl, hl, hc, h1⟩
  · refine wpList_append_own_none hgd s x 58 ho base 25 i0 1 Try.underlying58 hi v n xs hs hown hx ?_
    exact h v w (by simpa using hown) (grown_refl _ _) (Or.inl rfl)
  · exact wpList_append_own_at w hgd s x 58 ho base 25 i0 (.int .u32 0) 1 4 Try.underlying58 hi hz0 hz1 hz2 rfl (by decide) v n xs hs hown ad m c news hx (by omega) hc h1 (by unfold maxLen; omega) (by omega) hbase (fun v' w' h2 h3 _ h5 => h v' w' h2 h3 h5)
theorem heap_last (w : World) (o : Obj) : (w.alloc o).heap[w.heap.size]? = some o := at0 w o
theorem comp_own (w : World) (B : Nat) (h : B ≤ w.heap.size) : UL (w.alloc (.cells #[] 25)) B (.slice (some ⟨w.heap.size, 0, none⟩) 0 0) [] :=
  ⟨rfl, Or.inr ⟨w.heap.size, 0, #[], rfl, h, heap_last w _, Nat.le_refl _, by unfold maxLen; omega, rfl, rfl⟩⟩
/-- A list of numbers that lies somewhere. -/
def Row (w : World) (a : Option Addr) (L : List Int) : Prop := 0 < L.length → ∃ x, a = some x ∧ x.block < w.heap.size ∧ ∀ i e, L[i]? = some e → w.cell? (x.add i) = some (.int .u32 e)
theorem add_block (x : Addr) (i : Nat) : (x.add i).block = x.block := by unfold Addr.add; split <;> rfl
theorem Row.on {w w' : World} {a : Option Addr} {L : List Int} (h : Row w a L) (hb : Below w.heap.size w w') : Row w' a L := fun h0 => by
  obtain ⟨x, rfl, hx, hc⟩ := h h0
  exact ⟨x, rfl, Nat.lt_of_lt_of_le hx hb.size, fun i e he => (hb.cell (p := x.add i) (by rw [add_block]; exact hx)).trans (hc i e he)⟩
theorem Row.src {w : World} {a : Option Addr} {L : List Int} {c : Nat} (h : Row w a L) (hn : a = none → c = 0) : Src w (.slice a L.length c) L.length (us L) := by
  cases L with
  | nil =>
    cases a with
    | none => rw [hn rfl]; exact Or.inl ⟨rfl, rfl, rfl⟩
    | some x => exact Or.inr ⟨x, c, rfl, rfl, fun j u hu => by simp [us] at hu, us_one _⟩
  | cons e L =>
    obtain ⟨x, rfl, hx, hc⟩ := h (by simp)
    refine Or.inr ⟨x, c, rfl, us_len _, fun j u hu => ?_, us_one _⟩
    simp only [us, List.getElem?_map, Option.map_eq_some_iff] at hu
    obtain ⟨e', h1, rfl⟩ := hu
    exact hc j e' h1
theorem UL.row {w : World} {B : Nat} {v : Value} {L : List Int} (h : UL w B v L) : ∃ a c, v = .slice a L.length c ∧ Row w a L ∧ (a = none → c = 0) := by
  have h' := h
  obtain ⟨h1, h2⟩ := h
  rcases h2 with ⟨rfl, h0⟩ | ⟨g, cap, cur, rfl, h3, h4, h5⟩
  · have : L = [] := List.eq_nil_of_length_eq_zero h0
    subst this
    exact ⟨none, 0, rfl, fun h => by simp at h, fun _ => rfl⟩
  · refine ⟨_, cap, rfl, fun h0 => ⟨_, rfl, ?_, fun i e he => World.ownsRow.cells h' (g := g) rfl i _ (us_get he)⟩, fun e => by cases e⟩
    rcases Nat.lt_or_ge g w.heap.size with k | k
    · exact k
    · rw [Array.getElem?_eq_none (by omega)] at h4; cases h4
set_option maxHeartbeats 1000000 in
theorem num_any (e : Int) (w : World) : Calls Try.prog 15 #[.int .i64 e] w fun e' w' => e' = .returned (.int .i64 e) ∧ w' = w := by
  go_enter Try.func15, Try.ntmps15
  go_wp2
  go_ret
  exact ⟨rfl, rfl⟩
def sz (n : Int) : Bool := decide (1 ≤ n) && decide (n ≤ 2147483647)
set_option maxHeartbeats 1000000 in
theorem size_any (n : Int) (w : World) : Calls Try.prog 25 #[.int .u32 n] w fun e w' => e = .returned (.bool (sz n)) ∧ w' = w := by
  by_cases h : 1 ≤ n
  · go_enter Try.func25, Try.ntmps25
    go_wp2
    all_goals go_ret
    all_goals exact ⟨ret_bool (by simp [sz, h]), rfl⟩
  · go_enter Try.func25, Try.ntmps25
    go_wp2
    all_goals go_ret
    all_goals exact ⟨ret_bool (by simp [sz]; omega), rfl⟩
/-- The greatest of the first k. -/
def Mx (L : List Int) (k : Nat) (m : Int) : Prop := (∃ i, i < k ∧ L[i]? = some m) ∧ ∀ i e, i < k → L[i]? = some e → e ≤ m
theorem Mx.next {L : List Int} {k : Nat} {m e : Int} (h : Mx L k m) (he : L[k]? = some e) : Mx L (k + 1) (if m < e then e else m) := by
  obtain ⟨⟨i, hi, h1⟩, h2⟩ := h
  refine ⟨?_, fun j f hj hf => ?_⟩
  · split
    · exact ⟨k, by omega, he⟩
    · exact ⟨i, by omega, h1⟩
  · rcases Nat.lt_or_ge j k with hjk | hjk
    · have := h2 j f hjk hf
      split <;> omega
    · obtain rfl : j = k := by omega
      rw [he] at hf; cases hf
      split <;> omega
set_option maxHeartbeats 2000000 in
theorem max_any (a : Option Addr) (c : Nat) (L : List Int) (w : World) (hr : Row w a L) (h0 : 0 < L.length) (hl : L.length ≤ 9223372036854775807) :
    Calls Try.prog 27 #[.slice a L.length c] w fun e w' => ∃ m, e = .returned (.int .u32 m) ∧ Mx L L.length m ∧ w' = w := by
  obtain ⟨x, rfl, hx, hc⟩ := hr h0
  obtain ⟨e0, he0⟩ : ∃ e, L[0]? = some e := ⟨L[0], List.getElem?_eq_getElem h0⟩
  have hc0 := hc 0 e0 he0
  have HC : Hid (∀ i e, L[i]? = some e → w.cell? (x.add i) = some (.int .u32 e)) := hc
  have HE : Hid (L[0]? = some e0) := he0
  have hz : Hid (x.add 0 = x) := by show _ = _; unfold Addr.add; cases x; simp
  clear hc he0 hr
  rw [hz.out] at hc0
  have hln : ∃ n, L.length = n := ⟨_, rfl⟩
  obtain ⟨n, hn⟩ := hln
  rw [hn] at h0 hl ⊢
  have HN : Hid (L.length = n) := hn
  clear hn
  go_enter Try.func27, Try.ntmps27
  go_wp2
  go_loop [3, 4] (fun v i => ∃ (k : Nat) (m : Int), 1 ≤ k ∧ k ≤ n ∧ i = .int .i64 k ∧ v = .int .u32 m ∧ Hid (Mx L k m)) (fun _ i => n - (intOf i).toNat)
  case atStart => exact ⟨1, e0, Nat.le_refl _, h0, rfl, rfl, ⟨0, by omega, HE.out⟩, fun i e hi he => by (obtain rfl : i = 0 := (by omega)); rw [HE.out] at he; cases he; exact Int.le_refl _⟩
  case round =>
    obtain ⟨k, m, k1, k2, rfl, rfl, hm⟩ := hrel
    by_cases hlt : k < n
    · obtain ⟨e, he⟩ : ∃ e, L[k]? = some e := ⟨L[k]'(by rw [HN.out]; exact hlt), List.getElem?_eq_getElem _⟩
      have hck := HC.out k e he
      have HL : Hid (L[k]? = some e) := he
      clear he
      go_wp2
      exact ⟨⟨k + 1, _, by omega, by omega, by go_num, rfl, hm.out.next HL.out⟩, by simp [intOf]; omega⟩
    · have hkk : k = n := by omega
      subst hkk
      go_wp2
      all_goals go_ret
      all_goals exact ⟨m, rfl, hm.out, rfl⟩
end Ft
end Go.Proofs.Ytlkipgpfjpmliaa
