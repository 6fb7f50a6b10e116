import Derived.Test.YtclgbificccadaaSvX
namespace Go.Proofs.Ytclgbificccadaa
namespace Sv
open Go.RowKit Go.Shelf
set_option linter.unusedVariables false
attribute [local go_sem] Oper.semAt_some
theorem split_both (n k : Int) (hn0 : 0 ≤ n) (hn1 : n ≤ 4294967295) : ∃ N K F : Int, (Rg N K ∨ N ≤ 0) ∧ (∀ w, Calls Try.prog 12 #[.int .u32 n, .int .i64 k] w fun e w' => e = .returned (.tuple #[rg N K, .int .i64 F]) ∧ Below w.heap.size w w') ∧
    (∀ w, Calls Try.prog 16 #[.int .u32 n, .int .i64 k] w fun e w' => e = .returned (.tuple #[rg N K, .int .i64 F]) ∧ Below w.heap.size w w') := by
  by_cases h : Bad n k
  · refine ⟨0, 0, 90, .inr (by omega), fun w => (split_any n k hn0 hn1 w).mono ?_, fun w => (rsplit_any n k hn0 hn1 w).mono ?_⟩
    · rintro e w' ⟨hb, h1⟩; exact ⟨(h1.resolve_right (fun h2 => h.not h2.1)).2, hb⟩
    · rintro e w' ⟨hb, h1⟩; exact ⟨(h1.resolve_right (fun h2 => h.not h2.1)).2, hb⟩
  · refine ⟨n, k, 0, .inl (Rg.of h), fun w => (split_any n k hn0 hn1 w).mono ?_, fun w => (rsplit_any n k hn0 hn1 w).mono ?_⟩
    · rintro e w' ⟨hb, h1⟩; exact ⟨(h1.resolve_left (fun h2 => h h2.1)).2, hb⟩
    · rintro e w' ⟨hb, h1⟩; exact ⟨(h1.resolve_left (fun h2 => h h2.1)).2, hb⟩
/-- What a good Shuffle leaves, the lists being in blocks. -/
def SG (N K : Int) (k fan : Nat) (L : List T3) (ga gb : Nat) (Ta Tb : List Value) (w : World) (v1 v2 v3 : Value) (w' : World) : Prop :=
  ∃ (s g : Nat) (X Y : List T3), Sg k fan s ∧ v1 = .slice (some ⟨sw s ga gb, 0, none⟩) L.length L.length ∧ v2 = .slice (some ⟨g, 0, none⟩) (k + 1) (k + 1) ∧ v3 = .int .i64 0 ∧ w.heap.size ≤ g ∧ Rv w' g 3 (iv (mx (pn N K) L k k)) ∧
    X.length = L.length ∧ Y.length = L.length ∧ sw s X Y = stg (pn N K) k L ∧ Rv w' ga 44 (cl .u64 X ++ Ta) ∧ Rv w' gb 44 (cl .u64 Y ++ Tb) ∧ Two ga gb w w'
theorem sg_of {k fan s : Nat} (h1 : k ≤ fan ^ s) (h2 : ∀ t, t < s → fan ^ t < k) : Sg (k : Int) (fan : Int) s :=
  ⟨by exact_mod_cast h1, fun t ht => by exact_mod_cast h2 t ht⟩
theorem sw_addr (s ga gb : Nat) : sw s (some (⟨ga, 0, none⟩ : Addr)) (some ⟨gb, 0, none⟩) = some ⟨sw s ga gb, 0, none⟩ := by unfold sw; split <;> rfl
theorem shuffle_good (N K : Int) (k fan : Nat) (hk : 1 ≤ k) (hk2 : k ≤ 512) (hf1 : 2 ≤ fan) (hf2 : fan ≤ 256) (L M : List T3) (hl : L.length * 24 ≤ 140737488355328) (hv : Vx N K L) (hg : Gd N K k L) (hM : M.length = L.length)
    (ca m cb ga gb : Nat) (Ta Tb : List Value) (hab : ga ≠ gb) (hca : L.length ≤ ca) (hm : L.length ≤ m) (hmb : m ≤ cb) (w : World) (hA : Rv w ga 44 (cl .u64 L ++ Ta)) (hB : Rv w gb 44 (cl .u64 M ++ Tb)) :
    Calls Try.prog 13 #[.slice (some ⟨ga, 0, none⟩) L.length ca, .slice (some ⟨gb, 0, none⟩) m cb, .int .i64 (k : Int), .int .i64 (fan : Int), .func (.func 14) #[rg N K] #[]] w fun e w' =>
      ∃ v1 v2 v3, e = .returned (.tuple #[v1, v2, v3]) ∧ SG N K k fan L ga gb Ta Tb w v1 v2 v3 w' := by
  by_cases h0 : 0 < L.length
  · refine (shuffle_ok N K k fan hk hk2 hf1 hf2 L M hl hv hg hM (some ⟨ga, 0, none⟩) ca m cb ga gb Ta Tb hab hca (fun h => by cases h) hm hmb w hA.lt hB.lt (fun _ => ⟨rfl, hA⟩) (fun _ => ⟨rfl, hB⟩)).mono ?_
    rintro e w' ⟨s, M', g, q1, q2, rfl, q4, q5, q6, q7, q8, q9⟩
    have hsl : (stg (pn N K) k L).length = L.length := stg_len _ _ _ (fun x hx => by have := hg x hx; unfold pa at this; unfold pn; omega)
    have r7 := (q7 (by omega)).2
    have r8 := (q8 (by omega)).2
    refine ⟨_, _, _, rfl, s, g, sw s (stg (pn N K) k L) M', sw s M' (stg (pn N K) k L), sg_of q1 q2, by rw [sw_addr], rfl, rfl, q5, q6, ?_⟩
    by_cases hs : s % 2 = 0
    · simp only [sw, if_pos hs] at r7 r8 ⊢
      exact ⟨hsl, q4, trivial, r7, r8, q9⟩
    · simp only [sw, if_neg hs] at r7 r8 ⊢
      exact ⟨q4, hsl, trivial, r8, r7, q9⟩
  · obtain rfl : L = [] := List.length_eq_zero_iff.1 (by omega)
    obtain rfl : M = [] := List.length_eq_zero_iff.1 (by omega)
    refine (shuffle_nil N K k fan hk hk2 hf1 hf2 ga gb ca m cb hmb w).mono ?_
    rintro e w' ⟨s, g, q1, q2, rfl, q5, q6, q7⟩
    refine ⟨_, _, _, rfl, s, g, [], [], sg_of q1 q2, by rw [sw_addr]; rfl, rfl, rfl, q5, q6, rfl, rfl, ?_, hA.on q7 hA.lt, hB.on q7 hB.lt, Two.below q7⟩
    have e : stg (pn N K) k ([] : List T3) = [] := List.length_eq_zero_iff.1 (stg_len _ _ _ (fun x hx => by simp at hx))
    rw [e]; unfold sw; split <;> rfl
/-- The order of the document and the stage of the program. -/
def ats (N K : Int) (L : List T3) : List Int := L.map fun e => pt N K e.1
theorem ats_len (N K : Int) (L : List T3) : (ats N K L).length = L.length := by simp [ats]
theorem ats_get {N K : Int} {L : List T3} {i : Nat} {e : T3} (h : L[i]? = some e) : (ats N K L)[i]? = some (pt N K e.1) := by simp [ats, h]
theorem ats_ok (N K : Int) (L : List T3) (k : Nat) : Ok (ats N K L) k ↔ Gd N K k L := by
  constructor
  · intro h e he
    obtain ⟨i, hi⟩ := List.mem_iff_getElem?.1 he
    exact h i _ (ats_get hi)
  · intro h i x hx
    simp only [ats, List.getElem?_map, Option.map_eq_some_iff] at hx
    obtain ⟨e, he, rfl⟩ := hx
    exact h e (List.mem_of_getElem? he)
theorem ga_ats {N K : Int} {L : List T3} {i : Nat} {e : T3} (h : L[i]? = some e) : ga (ats N K L) i = pn N K e := by unfold ga; rw [ats_get h]; rfl
theorem stg_map {α β : Type} (f : β → α) (g : α → Nat) (m : Nat) (L : List β) : stg g m (L.map f) = (stg (fun x => g (f x)) m L).map f := by
  unfold stg
  rw [List.map_flatMap]
  apply flatMap_congr'
  intro d _
  rw [List.filter_map]
  rfl
theorem range_get (L : List T3) : (List.range L.length).map (fun i => (L[i]?).getD (0, 0, 0)) = L := ups_self L
theorem stg_ord (N K : Int) (L : List T3) (k : Nat) : stg (pn N K) k L = (ord (ats N K L) k).map (fun i => (L[i]?).getD (0, 0, 0)) := by
  have h := stg_map (fun i => (L[i]?).getD (0, 0, 0)) (pn N K) k (List.range L.length)
  rw [range_get] at h
  rw [h, ord, ats_len]
  congr 1
  apply stg_congr
  intro i hi
  have hi' := List.mem_range.1 hi
  rw [List.getElem?_eq_getElem hi', ga_ats (List.getElem?_eq_getElem hi')]
  rfl
theorem ord_lt {A : List Int} {k i : Nat} (h : i ∈ ord A k) : i < A.length := List.mem_range.1 (stg_mem h)
/-- The i-th record of the shuffle is the record that the order names. -/
theorem ord_at {N K : Int} {L : List T3} {k i : Nat} {x : T3} (h : (stg (pn N K) k L)[i]? = some x) : ∃ j : Nat, (nz (ord (ats N K L) k))[i]? = some (j : Int) ∧ j < L.length ∧ L[j]? = some x := by
  rw [stg_ord, List.getElem?_map, Option.map_eq_some_iff] at h
  obtain ⟨j, hj, hx⟩ := h
  have hjl := ord_lt (List.mem_of_getElem? hj)
  rw [ats_len] at hjl
  refine ⟨j, by simp [nz, hj], hjl, ?_⟩
  rw [List.getElem?_eq_getElem hjl] at hx ⊢
  exact congrArg some hx
theorem countP_map' {α β : Type} (f : β → α) (q : α → Bool) (L : List β) : (L.map f).countP q = L.countP (fun x => q (f x)) := by
  rw [List.countP_map]; rfl
theorem opn_ats (N K : Int) (L : List T3) (d : Nat) : opn (ga (ats N K L)) (List.range (ats N K L).length) d = opn (pn N K) L d := by
  have h : opn (pn N K) L d = opn (pn N K) ((List.range L.length).map (fun i => (L[i]?).getD (0, 0, 0))) d := by rw [range_get]
  rw [h, ats_len]
  unfold opn
  rw [countP_map']
  apply List.countP_congr
  intro i hi
  have hi' := List.mem_range.1 hi
  rw [ga_ats (List.getElem?_eq_getElem hi'), List.getElem?_eq_getElem hi']
  rfl
theorem sts_ats (N K : Int) (L : List T3) (k : Nat) : sts (ats N K L) k = mx (pn N K) L k k := by
  unfold sts mx
  apply List.map_congr_left
  intro d hd
  have := List.mem_range.1 hd
  rw [if_pos (by omega), opn_ats]
end Sv
end Go.Proofs.Ytclgbificccadaa
