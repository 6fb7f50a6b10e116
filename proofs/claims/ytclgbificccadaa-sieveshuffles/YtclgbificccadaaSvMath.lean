namespace Go.Proofs.Ytclgbificccadaa
namespace Sv
set_option linter.unusedVariables false
variable {α : Type}
/-- One stage: the records whose number is 0, then those whose is 1, and on. -/
def stg (g : α → Nat) (m : Nat) (L : List α) : List α := (List.range m).flatMap fun d => L.filter fun x => g x == d
theorem range_mul (f : Nat → List α) (a b : Nat) : (List.range (a * b)).flatMap f = (List.range a).flatMap fun d => (List.range b).flatMap fun q => f (d * b + q) := by
  induction a with
  | zero => simp
  | succ a ih =>
    rw [List.range_succ, List.flatMap_append, ← ih, Nat.add_mul, Nat.one_mul, List.range_add, List.flatMap_append, List.flatMap_map]
    simp
theorem flatMap_congr' {β γ : Type} {l : List β} {f g : β → List γ} (h : ∀ x ∈ l, f x = g x) : l.flatMap f = l.flatMap g := by
  induction l with
  | nil => rfl
  | cons a l ih => simp [h a (by simp), ih (fun x hx => h x (by simp [hx]))]
theorem radix (P : α → Nat) (low fan : Nat) (hl : 0 < low) (L : List α) :
    stg (fun x => P x / low % fan) fan (stg (fun x => P x % low) low L) = stg (fun x => P x % (low * fan)) (low * fan) L := by
  unfold stg
  rw [Nat.mul_comm low fan, range_mul]
  refine flatMap_congr' fun d hd => ?_
  rw [List.filter_flatMap]
  refine flatMap_congr' fun q hq => ?_
  simp only [List.filter_filter]
  refine List.filter_congr fun x _ => ?_
  have hd := List.mem_range.1 hd
  have hq := List.mem_range.1 hq
  have h1 : P x % (fan * low) = P x / low % fan * low + P x % low := by
    rw [Nat.mul_comm fan low, Nat.mod_mul, Nat.mul_comm (P x / low % fan) low, Nat.add_comm]
  rw [h1, Bool.eq_iff_iff]
  simp only [Bool.and_eq_true, beq_iff_eq]
  constructor
  · rintro ⟨h, h'⟩; rw [h, h']
  · intro h
    have hm : P x % low < low := Nat.mod_lt _ hl
    have e1 : P x % low = q := by
      have := congrArg (· % low) h
      simpa [Nat.add_comm, Nat.add_mul_mod_self_right, Nat.mod_eq_of_lt hq] using this
    refine ⟨?_, e1⟩
    rw [e1] at h
    exact Nat.eq_of_mul_eq_mul_right hl (Nat.add_right_cancel h)
theorem stg_one (P : α → Nat) (L : List α) : stg (fun x => P x % 1) 1 L = L := by
  simp [stg, Nat.mod_one]
theorem flatMap_nil' {β γ : Type} {l : List β} {f : β → List γ} (h : ∀ x ∈ l, f x = []) : l.flatMap f = [] := by
  induction l with
  | nil => rfl
  | cons a l ih => simp [h a (by simp)]; exact fun x hx => h x (by simp [hx])
theorem stg_all (P : α → Nat) (low k : Nat) (hk : k ≤ low) (L : List α) (h : ∀ x ∈ L, P x < k) : stg (fun x => P x % low) low L = stg P k L := by
  unfold stg
  obtain ⟨m, rfl⟩ : ∃ m, low = k + m := ⟨low - k, by omega⟩
  rw [List.range_add, List.flatMap_append, List.flatMap_map]
  rw [flatMap_nil' (l := List.range m), List.append_nil]
  · refine flatMap_congr' fun d hd => List.filter_congr fun x hx => ?_
    have := h x hx
    show (P x % (k + m) == d) = _
    rw [Nat.mod_eq_of_lt (by omega)]
  · intro d hd
    rw [List.filter_eq_nil_iff]
    intro x hx
    have := h x hx
    show ¬ (P x % (k + m) == k + d) = true
    rw [Nat.mod_eq_of_lt (by omega)]
    simp; omega
theorem stg_congr {g h : α → Nat} {m : Nat} {L : List α} (e : ∀ x ∈ L, g x = h x) : stg g m L = stg h m L := by
  unfold stg
  exact flatMap_congr' fun d _ => List.filter_congr fun x hx => by rw [e x hx]
/-- How many records have a number below d. -/
def opn (g : α → Nat) (L : List α) (d : Nat) : Nat := L.countP fun x => decide (g x < d)
theorem opn_succ (g : α → Nat) (L : List α) (d : Nat) : opn g L (d + 1) = opn g L d + L.countP fun x => g x == d := by
  unfold opn
  induction L with
  | nil => rfl
  | cons a L ih =>
    rw [List.countP_cons, List.countP_cons, List.countP_cons, ih]
    by_cases h1 : g a < d
    · have h2 : g a < d + 1 := by omega
      have h3 : (g a == d) = false := by simp; omega
      simp [h1, h2, h3]; omega
    · by_cases h4 : g a = d
      · simp [h4]; omega
      · have h2 : ¬ g a < d + 1 := by omega
        simp [h1, h2, h4]
theorem stg_prefix (g : α → Nat) (L : List α) (d : Nat) : (stg g d L).length = opn g L d := by
  induction d with
  | zero => simp [stg, opn]
  | succ d ih =>
    rw [opn_succ, ← ih]
    unfold stg
    rw [List.range_succ, List.flatMap_append, List.length_append]
    simp [List.countP_eq_length_filter]
theorem stg_split (g : α → Nat) (L : List α) (d m : Nat) (h : d < m) : ∃ T, stg g m L = stg g d L ++ (L.filter fun x => g x == d) ++ T := by
  unfold stg
  obtain ⟨r, rfl⟩ : ∃ r, m = d + 1 + r := ⟨m - (d + 1), by omega⟩
  refine ⟨((List.range r).map (d + 1 + ·)).flatMap fun d => L.filter fun x => g x == d, ?_⟩
  rw [List.range_add, List.flatMap_append, List.range_succ, List.flatMap_append]
  simp
/-- The place of a record in a stage. -/
theorem stg_get (g : α → Nat) (pre suf : List α) (x : α) (m : Nat) (h : g x < m) :
    (stg g m (pre ++ x :: suf))[opn g (pre ++ x :: suf) (g x) + pre.countP (fun y => g y == g x)]? = some x := by
  obtain ⟨T, hT⟩ := stg_split g (pre ++ x :: suf) (g x) m h
  rw [hT, List.append_assoc, List.getElem?_append_right (by rw [stg_prefix]; omega), stg_prefix, Nat.add_sub_cancel_left, List.filter_append, List.append_assoc, List.countP_eq_length_filter]
  rw [List.getElem?_append_right (Nat.le_refl _), Nat.sub_self]
  simp
theorem stg_len (g : α → Nat) (m : Nat) (L : List α) (h : ∀ x ∈ L, g x < m) : (stg g m L).length = L.length := by
  rw [stg_prefix, opn, List.countP_eq_length]
  intro x hx; simpa using h x hx
theorem opn_le (g : α → Nat) (L : List α) (d : Nat) : opn g L d ≤ L.length := List.countP_le_length
end Sv
end Go.Proofs.Ytclgbificccadaa
