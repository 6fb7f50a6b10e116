import Derived.Test.YtclgbificccadaaSvL
namespace Go.Proofs.Ytclgbificccadaa
namespace Sv
open Go.RowKit
set_option linter.unusedVariables false
section
variable {α : Type}
theorem stg_succ (g : α → Nat) (m : Nat) (L : List α) : stg g (m + 1) L = stg g m L ++ L.filter (fun x => g x == m) := by
  unfold stg
  rw [List.range_succ, List.flatMap_append]
  simp
theorem stg_count (g : α → Nat) (m : Nat) (L : List α) (q : α → Bool) : (stg g m L).countP q = L.countP (fun x => q x && decide (g x < m)) := by
  induction m with
  | zero => simp [stg]
  | succ m ih =>
    rw [stg_succ, List.countP_append, ih, List.countP_filter]
    symm
    refine countP_split _ _ _ L (fun x _ => ?_) (fun x _ hx => ?_)
    · by_cases h1 : g x = m
      · simp [h1]
      · have : decide (g x < m + 1) = decide (g x < m) := by rw [Bool.eq_iff_iff]; simp; omega
        simp [this, h1]
    · simp at hx ⊢
      omega
theorem stg_count_all (g : α → Nat) (m : Nat) (L : List α) (h : ∀ x ∈ L, g x < m) (q : α → Bool) : (stg g m L).countP q = L.countP q := by
  rw [stg_count]
  exact List.countP_congr fun x hx => by simp [h x hx]
theorem stg_mem {g : α → Nat} {m : Nat} {L : List α} {x : α} (h : x ∈ stg g m L) : x ∈ L := by
  unfold stg at h
  obtain ⟨d, _, hx⟩ := List.mem_flatMap.1 h
  exact (List.mem_filter.1 hx).1
/-- Where each digit's next record goes, behind i records. -/
def nx (g : α → Nat) (L : List α) (fan i : Nat) : List Int := (List.range 256).map fun d => if d < fan then ((opn g L d + (L.take i).countP (fun x => g x == d) : Nat) : Int) else 0
theorem nx_len (g : α → Nat) (L : List α) (fan i : Nat) : (nx g L fan i).length = 256 := by simp [nx]
theorem nx_get (g : α → Nat) (L : List α) (fan i d : Nat) (h : d < 256) : (nx g L fan i)[d]? = some (if d < fan then ((opn g L d + (L.take i).countP (fun x => g x == d) : Nat) : Int) else 0) := by
  simp only [nx, List.getElem?_map, List.getElem?_range h, Option.map_some]
theorem nx_zero (g : α → Nat) (L M : List α) (fan : Nat) (h : ∀ d, opn g M d = opn g L d) : nx g M fan 0 = om g L fan := by
  unfold nx om
  refine List.map_congr_left fun d _ => ?_
  rw [h]
  simp
theorem nx_next (g : α → Nat) (L : List α) (fan i : Nat) (x : α) (hx : L[i]? = some x) (hd : g x < fan) (hf : fan ≤ 256) :
    (nx g L fan i).set (g x) ((opn g L (g x) + (L.take i).countP (fun y => g y == g x) : Nat) + 1 : Int) = nx g L fan (i + 1) := by
  apply List.ext_getElem?
  intro d
  by_cases hi : d < 256
  · rw [nx_get g L fan (i + 1) d hi]
    by_cases e : d = g x
    · subst e
      rw [List.getElem?_set_self (by rw [nx_len]; omega), if_pos hd, take_snoc hx, List.countP_append]
      congr 1
      simp
      omega
    · rw [List.getElem?_set_ne (by omega), nx_get g L fan i d hi, take_snoc hx, List.countP_append]
      have : (g x == d) = false := by simp; omega
      simp [this]
  · rw [List.getElem?_eq_none (by rw [List.length_set, nx_len]; omega), List.getElem?_eq_none (by rw [nx_len]; omega)]
/-- Behind i records what stands where it belongs. -/
def Dn (g : α → Nat) (L : List α) (fan i : Nat) (M : List α) : Prop :=
  M.length = L.length ∧ ∀ d, d < fan → ∀ q, opn g L d ≤ q → q < opn g L d + (L.take i).countP (fun x => g x == d) → M[q]? = (stg g fan L)[q]?
theorem Dn.zero (g : α → Nat) (L : List α) (fan : Nat) {M : List α} (h : M.length = L.length) : Dn g L fan 0 M := ⟨h, fun d _ q h1 h2 => by simp at h2; omega⟩
theorem Dn.at {g : α → Nat} {L : List α} {fan i : Nat} {x : α} (hx : L[i]? = some x) (hd : g x < fan) :
    (stg g fan L)[opn g L (g x) + (L.take i).countP (fun y => g y == g x)]? = some x := by
  have hi := (List.getElem?_eq_some_iff.1 hx).1
  have e : L = L.take i ++ x :: L.drop (i + 1) := by
    have h1 : L.drop i = x :: L.drop (i + 1) := by
      rw [List.drop_eq_getElem_cons hi]
      congr 1
      have := List.getElem?_eq_getElem hi
      rw [hx] at this
      exact (Option.some.inj this).symm
    rw [← h1, List.take_append_drop]
  have h := stg_get g (L.take i) (L.drop (i + 1)) x fan hd
  rw [← e] at h
  exact h
theorem Dn.lt {g : α → Nat} {L : List α} {fan i : Nat} {x : α} (hx : L[i]? = some x) (hd : g x < fan) (ha : ∀ y ∈ L, g y < fan) :
    opn g L (g x) + (L.take i).countP (fun y => g y == g x) < L.length := by
  have h := (List.getElem?_eq_some_iff.1 (Dn.at (fan := fan) hx hd)).1
  rwa [stg_len g fan L ha] at h
theorem Dn.next {g : α → Nat} {L : List α} {fan i : Nat} {M : List α} (h : Dn g L fan i M) {x : α} (hx : L[i]? = some x) (hd : g x < fan) :
    Dn g L fan (i + 1) (M.set (opn g L (g x) + (L.take i).countP (fun y => g y == g x)) x) := by
  refine ⟨by simp [h.1], fun d hdf q h1 h2 => ?_⟩
  have hat := Dn.at (fan := fan) hx hd
  by_cases e : q = opn g L (g x) + (L.take i).countP (fun y => g y == g x)
  · rw [e, hat]
    by_cases hq : opn g L (g x) + (L.take i).countP (fun y => g y == g x) < M.length
    · exact List.getElem?_set_self hq
    · exfalso
      have hi := (List.getElem?_eq_some_iff.1 hx).1
      have hl := (List.getElem?_eq_some_iff.1 hat).1
      rw [stg_prefix] at hl
      have := opn_le g L fan
      rw [h.1] at hq
      omega
  · rw [List.getElem?_set_ne (fun a => e a.symm)]
    refine h.2 d hdf q h1 ?_
    rw [take_snoc hx, List.countP_append] at h2
    by_cases e2 : g x = d
    · subst e2
      simp at h2
      omega
    · have : (g x == d) = false := by simp; omega
      simp [this] at h2
      omega
theorem opn_find (g : α → Nat) (L : List α) (m q : Nat) (h : q < opn g L m) : ∃ d, d < m ∧ opn g L d ≤ q ∧ q < opn g L (d + 1) := by
  induction m with
  | zero => rw [opn_zero] at h; omega
  | succ m ih =>
    by_cases h1 : q < opn g L m
    · obtain ⟨d, hd, h2⟩ := ih h1
      exact ⟨d, by omega, h2⟩
    · exact ⟨m, by omega, by omega, h⟩
theorem Dn.done {g : α → Nat} {L : List α} {fan : Nat} {M : List α} (h : Dn g L fan L.length M) (ha : ∀ y ∈ L, g y < fan) : M = stg g fan L := by
  apply List.ext_getElem?
  intro q
  have hl := stg_len g fan L ha
  by_cases hq : q < L.length
  · have h1 := stg_prefix g L fan
    obtain ⟨d, hd, h2, h3⟩ := opn_find g L fan q (by omega)
    refine h.2 d hd q h2 ?_
    rw [List.take_length]
    rw [opn_succ] at h3
    exact h3
  · rw [List.getElem?_eq_none (by rw [h.1]; omega), List.getElem?_eq_none (by omega)]
end
theorem cl_set (q : IntKind) (L : List T3) (i : Nat) (e : T3) : (((cl q L).set (i * 3) (.int .u32 e.1)).set (i * 3 + 1) (.int q e.2.1)).set (i * 3 + 2) (.int q e.2.2) = cl q (L.set i e) := by
  induction L generalizing i with
  | nil => simp [cl]
  | cons a L ih =>
    cases i with
    | zero => simp [cl_cons, e3]
    | succ i =>
      rw [show (i + 1) * 3 = i * 3 + 3 by omega, show i * 3 + 3 + 1 = i * 3 + 1 + 3 by omega, show i * 3 + 3 + 2 = i * 3 + 2 + 3 by omega]
      simp only [List.set_cons_succ, cl_cons]
      rw [← ih i]
      simp [e3]
end Sv
end Go.Proofs.Ytclgbificccadaa
