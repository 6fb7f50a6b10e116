import Derived.Test.YtipnlcnikpngcaaDoorSqD
namespace Go.Proofs.YtipnlcnikpngcaaDoor
namespace Wp
open Go.RowKit
set_option linter.unusedVariables false
set_option maxRecDepth 8000
theorem nodup_le {α : Type} [BEq α] [LawfulBEq α] : ∀ (l m : List α), l.Nodup → (∀ x, x ∈ l → x ∈ m) → l.length ≤ m.length
  | [], m, _, _ => Nat.zero_le _
  | x :: l, m, hn, h => by
    have hx : x ∈ m := h x (by simp)
    have h1 := nodup_le l (m.erase x) (List.nodup_cons.1 hn).2 (fun y hy => by
      have hne : y ≠ x := fun e => (List.nodup_cons.1 hn).1 (e ▸ hy)
      exact (List.mem_erase_of_ne hne).2 (h y (by simp [hy])))
    have h2 := List.length_erase_of_mem hx
    have h3 := List.length_pos_of_mem hx
    simp only [List.length_cons]
    omega
theorem pig (f : Nat → Nat) (k n : Nat) (h1 : ∀ i, i < k → f i < n) (h2 : ∀ i j, i < j → j < k → f i ≠ f j) : k ≤ n := by
  have := nodup_le ((List.range k).map f) (List.range n) (by
    rw [List.nodup_iff_pairwise_ne, List.pairwise_map]
    refine List.Pairwise.imp_of_mem ?_ (List.pairwise_lt_range (n := k))
    intro a b ha hb hab
    exact h2 a b hab (List.mem_range.1 hb)) (fun x hx => by
    obtain ⟨i, hi, rfl⟩ := List.mem_map.1 hx
    exact List.mem_range.2 (h1 i (List.mem_range.1 hi)))
  simpa using this
/-- Every place is some vertex's. -/
theorem pr_onto {N A C : Nat} (hg : Nat.gcd N A = 1) (i : Nat) (hi : i < N) : ∃ v, v < N ∧ pr N A C v = i := by
  refine Classical.byContradiction fun hc => ?_
  have := pig (fun v => if v < N then pr N A C v else i) (N + 1) N (fun v hv => by
    show (if v < N then pr N A C v else i) < N
    split
    · exact pr_lt _ _ _ _ (by omega)
    · exact hi) (fun u v huv hv => by
    show (if u < N then pr N A C u else i) ≠ (if v < N then pr N A C v else i)
    rw [if_pos (show u < N by omega)]
    by_cases h : v < N
    · rw [if_pos h]; intro e; have := pr_inj hg (show u < N by omega) h e; omega
    · rw [if_neg h]; intro e; exact hc ⟨u, by omega, e⟩)
  omega
/-- A list of one-cell elements as it lies. -/
def GV (w : World) (b : Nat) (t : TypeId) (n : Nat) (G : Nat → Value) : Prop := ∃ C : Array Value, w.heap[b]? = some (.cells C t (0, 0)) ∧ ∀ v, v < n → C[v]? = some (G v)
theorem GV.lt {w : World} {b n : Nat} {t : TypeId} {G : Nat → Value} (h : GV w b t n G) : b < w.heap.size := by
  obtain ⟨C, h, _⟩ := h
  exact (Array.getElem?_eq_some_iff.1 h).1
theorem GV.of {w w' : World} {b n : Nat} {t : TypeId} {G : Nat → Value} (h : GV w b t n G) (e : w'.heap[b]? = w.heap[b]?) : GV w' b t n G := by
  obtain ⟨C, h, h2⟩ := h
  exact ⟨C, e.trans h, h2⟩
theorem GV.on {w w' : World} {b n : Nat} {t : TypeId} {G : Nat → Value} (h : GV w b t n G) (hb : Below w.heap.size w w') : GV w' b t n G := h.of (hb.block b h.lt)
theorem GV.ext {w : World} {b n : Nat} {t : TypeId} {G H : Nat → Value} (h : GV w b t n G) (e : ∀ v, v < n → G v = H v) : GV w b t n H := by
  obtain ⟨C, h1, h2⟩ := h
  exact ⟨C, h1, fun v hv => by rw [← e v hv]; exact h2 v hv⟩
theorem GV.cell {w : World} {b n : Nat} {t : TypeId} {G : Nat → Value} (h : GV w b t n G) (v : Nat) (hv : v < n) : w.cell? ⟨b, v, none⟩ = some (G v) := by
  obtain ⟨C, h, h2⟩ := h
  exact (cell_of_row w b _ _ t (0, 0) h).trans (h2 v hv)
theorem GV.fz {w : World} {b n : Nat} {t : TypeId} {G : Nat → Value} (h : GV w b t n G) (v : Nat) : w.frozen? ⟨b, v, none⟩ = false := by
  obtain ⟨C, h, h2⟩ := h
  exact frozen_of_row w b _ _ t h
theorem GV.set {w : World} {b n : Nat} {t : TypeId} {G : Nat → Value} (h : GV w b t n G) (v : Nat) (hv : v < n) (x : Value) : ∃ D, w.setCell ⟨b, v, none⟩ x = w.setRow b D ∧ GV (w.setRow b D) b t n (fun u => if u = v then x else G u) := by
  obtain ⟨C, h, h2⟩ := h
  refine ⟨_, setCell_eq_setRow w b v C t (0, 0) x h, _, setRow_heap w b _ _ t (0, 0) h, fun u hu => ?_⟩
  have hs := (Array.getElem?_eq_some_iff.1 (h2 v hv)).1
  rw [Array.getElem?_setIfInBounds]
  by_cases e : v = u
  · subst e; rw [if_pos rfl, if_pos hs]; simp
  · rw [if_neg e]
    show C[u]? = some (if u = v then x else G u)
    rw [if_neg (fun (k : u = v) => e k.symm)]; exact h2 u hu
theorem GV.new (w : World) (t : TypeId) (z : Value) (n : Nat) : GV (w.alloc (.cells (madeCells #[z] n) t)) w.heap.size t n (fun _ => z) := by
  refine ⟨_, at0 _ _, fun v hv => ?_⟩
  simp only [madeCells]
  simp [hv, Nat.mod_one]
theorem infoN : (Tryd.prog.info? 22).map (fun i => (i.zero, i.size, i.bytes)) = some (some (.int .u32 0), 1, 4) := by kernel_rfl
theorem infoW : (Tryd.prog.info? 23).map (fun i => (i.zero, i.size, i.bytes)) = some (some (.int .u64 0), 1, 8) := by kernel_rfl
theorem infoL : (Tryd.prog.info? 4).map (fun i => (i.zero, i.size, i.bytes)) = some (some (.bool false), 1, 1) := by kernel_rfl
theorem make_num (w : World) (n : Nat) (hn : n ≤ 1000000) : (Instr.makeSlice 87 (.int .u32 (n : Int)) (.int .u32 (n : Int))).run Tryd.prog w = .ok (.slice (some ⟨w.heap.size, 0, none⟩) n n) (w.alloc (.cells (madeCells #[.int .u32 0] n) 22)) := by
  have h := infoN
  cases hh : Tryd.prog.info? 22 with
  | none => rw [hh] at h; cases h
  | some i =>
    rw [hh] at h
    simp at h
    have hr := run_make (P := Tryd.prog) w 87 22 i (.int .u32 0) Tryd.underlying87 hh h.1 .u32 .u32 n n (by omega) (by omega) (by rw [h.2.2]; omega) (by omega)
    rw [h.2.1] at hr
    simp only [Int.toNat_natCast, Nat.mul_one] at hr
    rw [hr]
    rfl
theorem make_word (w : World) (n : Nat) (hn : n ≤ 1000000) : (Instr.makeSlice 38 (.int .u32 (n : Int)) (.int .u32 (n : Int))).run Tryd.prog w = .ok (.slice (some ⟨w.heap.size, 0, none⟩) n n) (w.alloc (.cells (madeCells #[.int .u64 0] n) 23)) := by
  have h := infoW
  cases hh : Tryd.prog.info? 23 with
  | none => rw [hh] at h; cases h
  | some i =>
    rw [hh] at h
    simp at h
    have hr := run_make (P := Tryd.prog) w 38 23 i (.int .u64 0) Tryd.underlying38 hh h.1 .u32 .u32 n n (by omega) (by omega) (by rw [h.2.2]; omega) (by omega)
    rw [h.2.1] at hr
    simp only [Int.toNat_natCast, Nat.mul_one] at hr
    rw [hr]
    rfl
theorem make_bool (w : World) (n : Nat) (hn : n ≤ 1000000) : (Instr.makeSlice 91 (.int .u32 (n : Int)) (.int .u32 (n : Int))).run Tryd.prog w = .ok (.slice (some ⟨w.heap.size, 0, none⟩) n n) (w.alloc (.cells (madeCells #[.bool false] n) 4)) := by
  have h := infoL
  cases hh : Tryd.prog.info? 4 with
  | none => rw [hh] at h; cases h
  | some i =>
    rw [hh] at h
    simp at h
    have hr := run_make (P := Tryd.prog) w 91 4 i (.bool false) Tryd.underlying91 hh h.1 .u32 .u32 n n (by omega) (by omega) (by rw [h.2.2]; omega) (by omega)
    rw [h.2.1] at hr
    simp only [Int.toNat_natCast, Nat.mul_one] at hr
    rw [hr]
    rfl
/-- What Order keeps. -/
structure OI (N A C j rb b : Nat) (w wr : World) : Prop where
  t : Below w.heap.size w wr
  r : wr.heap[rb]? = some (.cells (rk N A C) 26 (0, 0))
  o : ∃ O : Nat → Nat, GV wr b 22 N (fun i => .int .u32 (O i : Int)) ∧ (∀ i, i < N → O i < N) ∧ ∀ v, v < j → O (pr N A C v) = v
  e : rb ≠ b ∧ w.heap.size ≤ b
theorem OI.on {N A C j rb b : Nat} {w wr w' : World} (h : OI N A C j rb b w wr) (hb : Below wr.heap.size wr w') : OI N A C j rb b w w' := by
  obtain ⟨O, h1, h2⟩ := h.o
  exact ⟨h.t.trans (hb.mono h.t.size), (hb.block _ (lt_of_some h.r)).trans h.r, ⟨O, h1.on hb, h2⟩, h.e⟩
theorem OI.next {N A C j rb b : Nat} {w wr : World} (h : OI N A C j rb b w wr) (hg : Nat.gcd N A = 1) (hj : j < N) : OI N A C (j + 1) rb b w (wr.setCell ⟨b, pr N A C j, none⟩ (.int .u32 (j : Int))) := by
  obtain ⟨O, h1, h2, h3⟩ := h.o
  obtain ⟨D, hD, hG⟩ := h1.set (pr N A C j) (pr_lt _ _ _ _ (by omega)) (.int .u32 (j : Int))
  rw [hD]
  refine ⟨below_setRow h.t h.e.2 _, (setRow_other _ _ _ _ h.e.1).trans h.r, ⟨fun i => if i = pr N A C j then j else O i, hG.ext (fun i hi => ?_), fun i hi => ?_, fun v hv => ?_⟩, h.e⟩
  · by_cases e : i = pr N A C j
    · simp [e]
    · simp [e]
  · show (if i = pr N A C j then j else O i) < N
    split
    · exact hj
    · exact h2 i hi
  · show (if pr N A C v = pr N A C j then j else O (pr N A C v)) = v
    by_cases e : v = j
    · subst e; simp
    · rw [if_neg (fun k => e (pr_inj hg (by omega) hj k))]; exact h3 v (by omega)
/-- What Order answers. -/
def Od (N A C : Nat) (w : World) (e : Ending) (w' : World) : Prop := ∃ (b : Nat) (O : Nat → Nat), e = .returned (.slice (some ⟨b, 0, none⟩) N N) ∧ GV w' b 22 N (fun i => .int .u32 (O i : Int)) ∧ (∀ i, i < N → O i < N ∧ pr N A C (O i) = i) ∧ Below w.heap.size w w' ∧ w.heap.size ≤ b
theorem Od.mk {N A C rb b : Nat} {w wr : World} (hg : Nat.gcd N A = 1) (h : OI N A C N rb b w wr) : Od N A C w (.returned (.slice (some ⟨b, 0, none⟩) N N)) wr := by
  obtain ⟨O, h1, h2, h3⟩ := h.o
  refine ⟨b, O, rfl, h1, fun i hi => ⟨h2 i hi, ?_⟩, h.t, h.e.2⟩
  obtain ⟨v, hv, e⟩ := pr_onto (C := C) hg i hi
  rw [← e, h3 v hv]
set_option maxHeartbeats 4000000 in
theorem order_any (N A C : Nat) (h0 : 1 ≤ N) (hN : N ≤ 1000) (hA : A < N) (hC : C < N) (hg : Nat.gcd N A = 1) (w : World) : Calls Tryd.prog 27 #[.agg (rk N A C)] w fun e w' => Od N A C w e w' := by
  have HG := hide hg
  have hO : Ord N A C := ⟨⟨h0, by omega⟩, hA, hC, hg⟩
  have HPl : Hid (∀ v, v < N → ∀ W, Calls Tryd.prog 46 #[.agg (rk N A C), .int .u32 (v : Int)] W fun e w' => e = .returned (.tuple #[.int .u32 ((pr N A C v : Nat) : Int), .int .i64 0]) ∧ Below W.heap.size W w') := by
    intro v hv W
    have h := rplace_any N A C v (by omega) (by omega) W
    have e1 : pl N A C v = pr N A C v := if_pos ⟨hO, hv⟩
    have e2 : pe N A C v = 0 := by unfold pe; rw [if_pos hO, if_pos hv]
    rw [e1, e2] at h
    exact h
  have HMk := hide (make_num (w.alloc (.cells (rk N A C) 26)) N (by omega))
  have hmk := HMk.out
  have HI0 : Hid (OI N A C 0 w.heap.size (w.heap.size + 1) w ((w.alloc (.cells (rk N A C) 26)).alloc (.cells (madeCells #[.int .u32 0] N) 22))) := by
    have hG := GV.new (w.alloc (.cells (rk N A C) 26)) 22 (.int .u32 0) N
    rw [World.size_alloc] at hG
    exact ⟨bA2 (b1 _ _ _) _, keep _ (at0 _ _), ⟨fun _ => 0, hG, fun _ _ => h0, fun v hv => absurd hv (by omega)⟩, ⟨by omega, by omega⟩⟩
  clear hg hO h0
  generalize madeCells #[.int .u32 0] N = mc at *
  rw [World.size_alloc] at hmk
  go_enter Tryd.func27, Tryd.ntmps27
  go_wp2_with (fail)
  clear hmk
  go_loopw [4] (fun v wr => ∃ j : Nat, j ≤ N ∧ v = .int .u32 (j : Int) ∧ Hid (OI N A C j w.heap.size (w.heap.size + 1) w wr)) (fun v _ => N - (intOf v).toNat)
  case atStart => exact ⟨0, Nat.zero_le _, rfl, HI0⟩
  case round =>
    clear HI0
    obtain ⟨j, hj, rfl, HI⟩ := hrel
    have hk := k3 (t := 26) HI.out.r
    by_cases cc : j < N
    · have HCa := hide (HPl.out j cc)
      have HC2 := hide cc
      have hw32 : IntKind.u32.wrap ((j : Int) + 1) = (j : Int) + 1 := by simp only [IntKind.wrap, IntKind.signed, IntKind.bits]; simp; omega
      obtain ⟨q, hq⟩ : ∃ q, pr N A C j = q := ⟨_, rfl⟩
      have hqN : q < N := by rw [← hq]; exact pr_lt _ _ _ _ (by omega)
      rw [hq] at HCa
      have HQ := hide hq
      clear hq hj
      go_wp2_with (fail)
      refine (HCa.out _).mono ?_
      rintro e1 w1 ⟨rfl, hB1'⟩
      have HI1 := hide (HI.out.on hB1')
      obtain ⟨O, hO1', _⟩ := HI1.out.o
      have hc1 := hO1'.cell q hqN
      have hf1 := hO1'.fz q
      clear hB1' hk hO1'
      go_wp2_with (fail)
      have hn := HI1.out.next HG.out HC2.out
      rw [HQ.out] at hn
      exact ⟨⟨j + 1, HC2.out, by go_num, hn⟩, by simp [intOf]; have := HC2.out; omega⟩
    · have hjn : N = j := by omega
      subst hjn
      clear cc hj
      go_wp2_with (fail)
      go_ret
      exact Od.mk HG.out HI.out
end Wp
end Go.Proofs.YtipnlcnikpngcaaDoor
