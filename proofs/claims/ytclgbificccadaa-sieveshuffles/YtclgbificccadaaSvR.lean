import Derived.Test.YtclgbificccadaaSvQ
namespace Go.Proofs.Ytclgbificccadaa
namespace Sv
open Go.RowKit
set_option linter.unusedVariables false
theorem step_append3 {t e : TypeId} {B : Nat} (hT : Tp t e B) {w : World} {ops : Array Oper} {o : Oper} {a : Act} {K : Act → World → Prop} {Q : Exit → Act → World → Prop} {E : Prop} (hgd : o.guard = none) (s x : Operand)
    (ho : o.op = .call { callee := .builtin .append, args := #[s, x], argTypes := #[t, t] }) (base : Nat) (v sv : Value) (n m : Nat) (xs news : List Value) (hs : a.eval s = v) (hown : w.ownsRow base e 3 v n xs)
    (hx : a.eval x = sv) (hsrc : Src w sv m news) (h63 : (n + m) * B ≤ 140737488355328) (h12 : 12 ≤ B) (hbase : base ≤ w.heap.size)
    (h : ∀ v' w', w'.ownsRow base e 3 v' (n + m) (xs ++ news) → w.grownBy w' v.ownBlock → (v'.ownBlock = v.ownBlock ∨ v'.ownBlock = some w.heap.size) → K (a.put o.dst v') w') :
    if Region.wanted o (yielded ops a.tmps) = true then Oper.wp Try.prog o a w K Q else E := by
  have hw : Region.wanted o (yielded ops a.tmps) = true := by simp [Region.wanted, hgd]
  rw [if_pos hw]
  obtain ⟨hu, i0, z, hi, hz0, hz1, hz2, hz3⟩ := hT
  have hm : n + m ≤ 140737488355328 := Nat.le_trans (by have := Nat.mul_le_mul_left (n + m) (show 1 ≤ B by omega); omega) h63
  rcases hsrc with ⟨rfl, rfl, rfl⟩ | ⟨ad, c, rfl, hl, hc, h1⟩
  · have hr := run_append_owned_none (P := Try.prog) (w := w) base t o.type e i0 3 hu hi v n xs hown
    unfold Oper.wp execOp
    simp only [ho, resolve, invoke, builtin, Sem.run_bind, Sem.run_pure, Result.andThen_ok, List.map_toArray, List.map_cons, List.map_nil, hs, hx, hr]
    exact h v w (by simpa using hown) (grown_refl _ _) (Or.inl rfl)
  · obtain ⟨v', w', hr, h2, h3, h4, h5⟩ := run_append_own_at (P := Try.prog) w base t o.type e i0 z 3 B hu hi hz0 hz1 hz2 hz3 (by decide) v n xs hown ad m c news (by omega) hc h1 (by unfold maxLen; omega) h63 hbase
    unfold Oper.wp execOp
    simp only [ho, resolve, invoke, builtin, Sem.run_bind, Sem.run_pure, Result.andThen_ok, List.map_toArray, List.map_cons, List.map_nil, hs, hx, hr]
    exact h v' w' h2 h3 h5
theorem cell_new (v : World) (N : Nat) (c : Array Value) (t : TypeId) (i : Nat) (x : Value) (hN : v.heap.size = N) (h : c[i]? = some x) : (v.alloc (.cells c t)).cell? ⟨N, i, none⟩ = some x := by
  subst hN
  have h1 : (v.alloc (.cells c t)).heap[v.heap.size]? = some (.cells c t) := World.alloc_heap_new v _
  simp only [World.cell?, h1, h]
  rfl
/-- One record in a new block. -/
theorem src_new3 (w : World) (p q r : Value) (t : TypeId) (hp : p.oneCell' = true) (hq : q.oneCell' = true) (hr : r.oneCell' = true) (c : Nat) : Src (w.alloc (.cells #[p, q, r] t)) (.slice (some ⟨w.heap.size, 0, none⟩) 1 c) 1 [p, q, r] := by
  refine Or.inr ⟨_, _, rfl, rfl, ?_, ?_⟩
  · intro j u hj
    match j, hj with
    | 0, hj => simp at hj; subst hj; exact cell_new _ _ _ _ _ _ rfl rfl
    | 1, hj => simp at hj; subst hj; exact cell_new _ _ _ _ _ _ rfl rfl
    | 2, hj => simp at hj; subst hj; exact cell_new _ _ _ _ _ _ rfl rfl
  · intro u hu; simp at hu; rcases hu with rfl | rfl | rfl <;> assumption
/-- The records of SieveStable. -/
def mk (V : Int) (L : List T3) : List T3 := L.mapIdx fun i e => (e.1 % V, (i : Int), e.2.2)
theorem mk_len (V : Int) (L : List T3) : (mk V L).length = L.length := by simp [mk]
theorem mk_get {V : Int} {L : List T3} {i : Nat} {e : T3} (h : L[i]? = some e) : (mk V L)[i]? = some (e.1 % V, (i : Int), e.2.2) := by simp [mk, h]
theorem mk_mem {V : Int} {L : List T3} {x : T3} (h : x ∈ mk V L) : ∃ (i : Nat) (e : T3), L[i]? = some e ∧ x = (e.1 % V, (i : Int), e.2.2) ∧ i < L.length := by
  obtain ⟨i, hi⟩ := List.getElem?_of_mem h
  have hl := (List.getElem?_eq_some_iff.1 hi).1
  rw [mk_len] at hl
  refine ⟨i, L[i], List.getElem?_eq_getElem hl, ?_, hl⟩
  rw [mk_get (List.getElem?_eq_getElem hl)] at hi
  exact (Option.some.inj hi).symm
theorem mk_at {V : Int} {L : List T3} {x : T3} (h : x ∈ mk V L) : ∃ j : Nat, j < L.length ∧ x.2.1 = (j : Int) ∧ (mk V L)[j]? = some x := by
  obtain ⟨i, e, h1, rfl, h3⟩ := mk_mem h
  exact ⟨i, h3, rfl, mk_get h1⟩
section
variable {α : Type}
/-- In a part's stretch stand its own records, in their order. -/
theorem stg_at (g : α → Nat) (L : List α) (d m i : Nat) (hd : d < m) (h0 : opn g L d ≤ i) (h1 : i < opn g L (d + 1)) : (stg g m L)[i]? = (L.filter fun x => g x == d)[i - opn g L d]? := by
  obtain ⟨T, hT⟩ := stg_split g L d m hd
  rw [hT, List.append_assoc, List.getElem?_append_right (by rw [stg_prefix]; exact h0), stg_prefix, List.getElem?_append_left]
  rw [opn_succ, List.countP_eq_length_filter] at h1
  omega
end
theorem stg_part (g : T3 → Nat) (L : List T3) (d m i : Nat) (x : T3) (hd : d < m) (h0 : opn g L d ≤ i) (h1 : i < opn g L (d + 1)) (hx : (stg g m L)[i]? = some x) : g x = d := by
  rw [stg_at g L d m i hd h0 h1] at hx
  have := (List.mem_filter.1 (List.mem_of_getElem? hx)).2
  simpa using this
theorem mk_sorted (V : Int) (L : List T3) : (mk V L).Pairwise fun a b => a.2.1 < b.2.1 := by
  rw [List.pairwise_iff_getElem]
  intro i j hi hj hij
  have h1 := mk_get (V := V) (List.getElem?_eq_getElem (by rw [mk_len] at hi; exact hi : i < L.length))
  have h2 := mk_get (V := V) (List.getElem?_eq_getElem (by rw [mk_len] at hj; exact hj : j < L.length))
  rw [List.getElem?_eq_getElem hi] at h1
  rw [List.getElem?_eq_getElem hj] at h2
  rw [Option.some.inj h1, Option.some.inj h2]
  show (i : Int) < (j : Int)
  omega
theorem stg_order (g : T3 → Nat) (V : Int) (L : List T3) (d m i : Nat) (x y : T3) (hd : d < m) (h0 : opn g (mk V L) d ≤ i) (h1 : i + 1 < opn g (mk V L) (d + 1)) (hx : (stg g m (mk V L))[i]? = some x) (hy : (stg g m (mk V L))[i + 1]? = some y) : x.2.1 < y.2.1 := by
  rw [stg_at g _ d m i hd h0 (by omega)] at hx
  rw [stg_at g _ d m (i + 1) hd (by omega) h1] at hy
  have hs := (mk_sorted V L).filter (fun x => g x == d)
  rw [List.pairwise_iff_getElem] at hs
  obtain ⟨a1, a2⟩ := List.getElem?_eq_some_iff.1 hx
  obtain ⟨b1, b2⟩ := List.getElem?_eq_some_iff.1 hy
  have := hs _ _ a1 b1 (by omega)
  rwa [a2, b2] at this
theorem stg_nodup (g : T3 → Nat) (V : Int) (L : List T3) (m : Nat) (h : ∀ x ∈ mk V L, g x < m) : ((stg g m (mk V L)).map (·.2.1)).Nodup := by
  have hp : (stg g m (mk V L)).Perm (mk V L) := by
    rw [List.perm_iff_count]
    intro a
    simp only [List.count_eq_countP]
    exact stg_count_all g m _ h _
  rw [(hp.map (·.2.1)).nodup_iff]
  unfold List.Nodup
  rw [List.pairwise_map]
  exact (mk_sorted V L).imp (fun h => by omega)
/-- Which have been seen ahead of place i. -/
def sn (S : List T3) (n i : Nat) : List Bool := (List.range n).map fun (j : Nat) => (S.take i).any fun x => x.2.1 == (j : Int)
def bv (L : List Bool) : List Value := L.map .bool
theorem bv_get {L : List Bool} {i : Nat} {x : Bool} (h : L[i]? = some x) : (bv L)[i]? = some (.bool x) := by simp [bv, h]
theorem bv_set (L : List Bool) (i : Nat) (x : Bool) : (bv L).set i (.bool x) = bv (L.set i x) := by simp [bv]
theorem sn_len (S : List T3) (n i : Nat) : (sn S n i).length = n := by simp [sn]
theorem sn_get (S : List T3) (n i j : Nat) (h : j < n) : (sn S n i)[j]? = some ((S.take i).any fun x => x.2.1 == (j : Int)) := by
  simp only [sn, List.getElem?_map, List.getElem?_range h, Option.map_some]
theorem sn_zero (S : List T3) (n : Nat) : sn S n 0 = List.replicate n false := by
  apply List.ext_getElem?
  intro i
  by_cases h : i < n
  · rw [sn_get S n 0 i h, List.getElem?_replicate]
    simp [h]
  · rw [List.getElem?_eq_none (by rw [sn_len]; omega), List.getElem?_eq_none (by rw [List.length_replicate]; omega)]
theorem sn_next (S : List T3) (n i j : Nat) (x : T3) (hx : S[i]? = some x) (hj : x.2.1 = (j : Int)) (h : j < n) : (sn S n i).set j true = sn S n (i + 1) := by
  apply List.ext_getElem?
  intro d
  by_cases hd : d < n
  · rw [sn_get S n (i + 1) d hd, take_snoc hx]
    by_cases e : d = j
    · subst e
      rw [List.getElem?_set_self (by rw [sn_len]; omega)]
      simp [hj]
    · rw [List.getElem?_set_ne (by omega), sn_get S n i d hd]
      have : (x.2.1 == (d : Int)) = false := by rw [hj]; simp; omega
      simp [this]
  · rw [List.getElem?_eq_none (by rw [List.length_set, sn_len]; omega), List.getElem?_eq_none (by rw [sn_len]; omega)]
theorem sn_new (S : List T3) (n i j : Nat) (x : T3) (hN : (S.map (·.2.1)).Nodup) (hx : S[i]? = some x) (hj : x.2.1 = (j : Int)) (h : j < n) : (sn S n i)[j]? = some false := by
  rw [sn_get S n i j h]
  congr 1
  rw [List.any_eq_false]
  intro y hy
  obtain ⟨q, hq⟩ := List.getElem?_of_mem hy
  rw [List.getElem?_take] at hq
  split at hq
  · rename_i hqi
    obtain ⟨a1, a2⟩ := List.getElem?_eq_some_iff.1 hx
    obtain ⟨b1, b2⟩ := List.getElem?_eq_some_iff.1 hq
    simp only [beq_iff_eq]
    intro e
    unfold List.Nodup at hN
    rw [List.pairwise_iff_getElem] at hN
    have := hN q i (by simpa using b1) (by simpa using a1) hqi
    simp only [List.getElem_map, a2, b2] at this
    omega
  · cases hq
theorem made_bv (n : Nat) : madeCells #[.bool false] n = (bv (List.replicate n false)).toArray := by
  simp [madeCells, bv]
  apply Array.ext
  · simp
  · intro i h1 h2
    simp [Nat.mod_one]
theorem infoB : (Try.prog.info? 4).map (fun i => (i.zero, i.size, i.bytes)) = some (some (.bool false), 1, 1) := by kernel_rfl
theorem make_bools (w : World) (n : Nat) (hn : n ≤ 140737488355328) : (Instr.makeSlice 49 (.int .i64 (n : Int)) (.int .i64 (n : Int))).run Try.prog w = .ok (.slice (some ⟨w.heap.size, 0, none⟩) n n) (w.alloc (.cells (bv (List.replicate n false)).toArray 4)) := by
  have h := infoB
  cases hh : Try.prog.info? 4 with
  | none => rw [hh] at h; cases h
  | some i =>
    rw [hh] at h
    simp at h
    have hr := run_make (P := Try.prog) w 49 4 i (.bool false) Try.underlying49 hh h.1 .i64 .i64 n n (by omega) (by omega) (by rw [h.2.2]; omega) (by omega)
    rw [h.2.1] at hr
    simp only [Int.toNat_natCast, Nat.mul_one] at hr
    rw [hr, show (Value.bool false).cells = #[.bool false] from rfl, made_bv]
theorem made_cl (n : Nat) : madeCells #[.int .u32 0, .int .u64 0, .int .u64 0] (n * 3) = (cl .u64 (List.replicate n (0, 0, 0))).toArray := by
  have hs : (cl .u64 (List.replicate n (0, 0, 0))).length = n * 3 := by rw [cl_len]; simp
  apply Array.ext
  · simp [madeCells, hs]
  · intro i h1 h2
    simp [madeCells] at h1
    have hq : i / 3 < n := by omega
    obtain ⟨c0, c1, c2⟩ := cl_get .u64 (List.replicate n (0, 0, 0)) (i / 3) (0, 0, 0) (by simp [hq])
    have h3 : i < (cl .u64 (List.replicate n (0, 0, 0))).length := by omega
    have key : (cl .u64 (List.replicate n (0, 0, 0)))[i]? = some (#[Value.int .u32 0, .int .u64 0, .int .u64 0][i % 3]!) := by
      rcases (by omega : i = i / 3 * 3 ∨ i = i / 3 * 3 + 1 ∨ i = i / 3 * 3 + 2) with e | e | e
      · rw [show i % 3 = 0 by omega, e, c0]; rfl
      · rw [show i % 3 = 1 by omega, e, c1]; rfl
      · rw [show i % 3 = 2 by omega, e, c2]; rfl
    rw [List.getElem?_eq_getElem h3] at key
    simp only [madeCells, Array.getElem_map, Array.getElem_range, List.getElem_toArray]
    exact (Option.some.inj key).symm
theorem make_updates (w : World) (n : Nat) (hn : n * 24 ≤ 140737488355328) : (Instr.makeSlice 37 (.int .i64 (n : Int)) (.int .i64 (n : Int))).run Try.prog w = .ok (.slice (some ⟨w.heap.size, 0, none⟩) n n) (w.alloc (.cells (cl .u64 (List.replicate n (0, 0, 0))).toArray 44)) := by
  have h := infoU
  cases hh : Try.prog.info? 44 with
  | none => rw [hh] at h; cases h
  | some i =>
    rw [hh] at h
    simp at h
    have hr := run_make (P := Try.prog) w 37 44 i (uV 0 0 0) Try.underlying37 hh h.1 .i64 .i64 n n (by omega) (by omega) (by rw [h.2.2]; omega) (by omega)
    rw [h.2.1] at hr
    simp only [Int.toNat_natCast] at hr
    rw [hr, show (uV 0 0 0).cells = #[.int .u32 0, .int .u64 0, .int .u64 0] from rfl, made_cl]
end Sv
end Go.Proofs.Ytclgbificccadaa
