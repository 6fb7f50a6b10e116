import Derived.Test.YtcepfmeoeepjdaaAvB
namespace Go.Proofs.Ytcepfmeoeepjdaa
namespace Au
open Go.RowKit
set_option linter.unusedVariables false
set_option maxRecDepth 8000
def GH (w : World) (b n : Nat) (H : Nat → Bool) : Prop := ∃ C : Array Value, w.heap[b]? = some (.cells C 4 (0, 0)) ∧ ∀ v, v < n → C[v]? = some (.bool (H v))
theorem GH.lt {w : World} {b n : Nat} {H : Nat → Bool} (h : GH w b n H) : b < w.heap.size := by
  obtain ⟨C, h, _⟩ := h
  exact (Array.getElem?_eq_some_iff.1 h).1
theorem GH.of {w w' : World} {b n : Nat} {H : Nat → Bool} (h : GH w b n H) (e : w'.heap[b]? = w.heap[b]?) : GH w' b n H := by
  obtain ⟨C, h, h2⟩ := h
  exact ⟨C, e.trans h, h2⟩
theorem GH.on {w w' : World} {b n : Nat} {H : Nat → Bool} (h : GH w b n H) (hb : Below w.heap.size w w') : GH w' b n H := h.of (hb.block b h.lt)
theorem GH.cell {w : World} {b n : Nat} {H : Nat → Bool} (h : GH w b n H) (v : Nat) (hv : v < n) : w.cell? ⟨b, v, none⟩ = some (.bool (H v)) := by
  obtain ⟨C, h, h2⟩ := h
  exact (cell_of_row w b _ _ 4 (0, 0) h).trans (h2 v hv)
theorem GH.fz {w : World} {b n : Nat} {H : Nat → Bool} (h : GH w b n H) (j : Nat) : w.frozen? ⟨b, j, none⟩ = false := by
  obtain ⟨C, h, h2⟩ := h
  exact frozen_of_row w b _ _ 4 h
theorem GH.set {w : World} {b n : Nat} {H : Nat → Bool} (h : GH w b n H) (j : Nat) (x : Bool) : GH (w.setCell ⟨b, j, none⟩ (.bool x)) b n (fun v => if v = j then x else H v) ∧ ∃ C, w.setCell ⟨b, j, none⟩ (.bool x) = w.setRow b C := by
  obtain ⟨C, h, h2⟩ := h
  rw [setCell_eq_setRow w b j C 4 (0, 0) _ h]
  refine ⟨⟨_, setRow_heap w b _ _ 4 (0, 0) h, fun v hv => ?_⟩, _, rfl⟩
  show _ = some (Value.bool (if v = j then x else H v))
  rw [Array.getElem?_setIfInBounds]
  have hv2 := h2 v hv
  have := (Array.getElem?_eq_some_iff.1 hv2).1
  by_cases e : j = v
  · subst e; rw [if_pos rfl, if_pos this, if_pos rfl]
  · rw [if_neg e, if_neg (fun k => e k.symm)]; exact hv2
theorem infoB : (Try.prog.info? 4).map (fun i => (i.zero, i.size, i.bytes)) = some (some (.bool false), 1, 1) := by kernel_rfl
theorem make_bool (w : World) (n : Nat) (hn : n ≤ 1000000) : (Instr.makeSlice 92 (.int .u32 (n : Int)) (.int .u32 (n : Int))).run Try.prog w = .ok (.slice (some ⟨w.heap.size, 0, none⟩) n n) (w.alloc (.cells (madeCells #[.bool false] n) 4)) := by
  have h := infoB
  cases hh : Try.prog.info? 4 with
  | none => rw [hh] at h; cases h
  | some i =>
    rw [hh] at h
    simp at h
    have hr := run_make (P := Try.prog) w 92 4 i (.bool false) Try.underlying92 hh h.1 .u32 .u32 n n (by omega) (by omega) (by rw [h.2.2]; omega) (by omega)
    rw [h.2.1] at hr
    simp only [Int.toNat_natCast, Nat.mul_one] at hr
    rw [hr]
    rfl
theorem GH.new (w : World) (n : Nat) : GH (w.alloc (.cells (madeCells #[.bool false] n) 4)) w.heap.size n (fun _ => false) := by
  refine ⟨_, at0 _ _, fun j hj => ?_⟩
  simp [madeCells, hj, Nat.mod_one]
/-- The document's own state. -/
def Dc (W : World) (cb gb n : Nat) (C : Nat → Int) : Prop := ∃ K G, GU W cb n K ∧ GH W gb n G ∧ ∀ v, v < n → (G v = true → K v = C v ∧ C v ≠ NN) ∧ (G v = false → C v = NN)
theorem Dc.of {W W' : World} {cb gb n : Nat} {C : Nat → Int} (h : Dc W cb gb n C) (h1 : W'.heap[cb]? = W.heap[cb]?) (h2 : W'.heap[gb]? = W.heap[gb]?) : Dc W' cb gb n C := by
  obtain ⟨K, G, a, b, c⟩ := h
  exact ⟨K, G, a.of h1, b.of h2, c⟩
theorem Dc.lt {W : World} {cb gb n : Nat} {C : Nat → Int} (h : Dc W cb gb n C) : cb < W.heap.size ∧ gb < W.heap.size := by
  obtain ⟨K, G, a, b, c⟩ := h
  exact ⟨a.lt, b.lt⟩
theorem Dc.ne {W : World} {cb gb n : Nat} {C : Nat → Int} (h : Dc W cb gb n C) : cb ≠ gb := fun e => by
  subst e
  obtain ⟨K, G, ⟨A, a, _⟩, ⟨B, b, _⟩, c⟩ := h
  rw [a] at b; simp at b
theorem Dc.ext {W : World} {cb gb n : Nat} {C C' : Nat → Int} (h : Dc W cb gb n C) (e : ∀ v, v < n → C v = C' v) : Dc W cb gb n C' := by
  obtain ⟨K, G, a, b, c⟩ := h
  exact ⟨K, G, a, b, fun v hv => by rw [← e v hv]; exact c v hv⟩
theorem Dc.g {W : World} {cb gb n : Nat} {C : Nat → Int} (h : Dc W cb gb n C) (v : Nat) (hv : v < n) : W.cell? ⟨gb, v, none⟩ = some (.bool (!lb C v)) := by
  obtain ⟨K, G, a, b, c⟩ := h
  rw [b.cell v hv]
  have := c v hv
  cases hg : G v with
  | true => have h1 := (this.1 hg).2; unfold lb; simp [h1]
  | false => have h1 := this.2 hg; unfold lb; simp [h1]
theorem Dc.fz {W : World} {cb gb n : Nat} {C : Nat → Int} (h : Dc W cb gb n C) (j : Nat) : W.frozen? ⟨gb, j, none⟩ = false ∧ W.frozen? ⟨cb, j, none⟩ = false := by
  obtain ⟨K, G, a, b, c⟩ := h
  exact ⟨b.fz j, a.fz j⟩
theorem Dc.take {W : World} {cb gb n : Nat} {C : Nat → Int} (h : Dc W cb gb n C) (v : Nat) (hv : v < n) (k : Int) (hk : k ≠ NN) : Dc ((W.setCell ⟨gb, v, none⟩ (.bool true)).setCell ⟨cb, v, none⟩ (.int .u64 k)) cb gb n (up C v k) ∧ (∃ x, (W.setCell ⟨gb, v, none⟩ (.bool true)).cell? ⟨cb, v, none⟩ = some x) ∧ (W.setCell ⟨gb, v, none⟩ (.bool true)).frozen? ⟨cb, v, none⟩ = false := by
  have hne := h.ne
  obtain ⟨K, G, a, b, c⟩ := h
  have a1 : GU (W.setCell ⟨gb, v, none⟩ (.bool true)) cb n K := a.of (Below.heap_setCell _ _ _ _ hne)
  have b1 := (b.set v true).1
  refine ⟨⟨up K v k, fun u => if u = v then true else G u, (a1.set v k).1, b1.of (Below.heap_setCell _ _ _ _ (fun e => hne e.symm)), fun u hu => ?_⟩, ⟨_, a1.cell v hv⟩, a1.fz v⟩
  by_cases e : u = v
  · subst e; simp only [if_true, up_eq]; exact ⟨fun _ => ⟨trivial, hk⟩, fun h => by cases h⟩
  · simp only [if_neg e, up_ne _ _ _ _ e]; exact c u hu
/-- The state as a world tells it. -/
def cgw (W : World) (cb gb v : Nat) : Int := match W.cell? ⟨gb, v, none⟩ with | some (.bool true) => cw W cb 0 v | _ => NN
theorem Dc.cg {W : World} {cb gb n : Nat} {C : Nat → Int} (h : Dc W cb gb n C) (v : Nat) (hv : v < n) : cgw W cb gb v = C v := by
  obtain ⟨K, G, a, b, c⟩ := h
  unfold cgw
  rw [b.cell v hv]
  have := c v hv
  cases hg : G v with
  | true => simp only; unfold cw; rw [Nat.zero_add, a.cell v hv]; exact (this.1 hg).1
  | false => simp only; exact (this.2 hg).symm
theorem dg_ext {C C' : Nat → Int} {n : Nat} {L : List T3} (hI : ∀ e ∈ L, e.1 < n ∧ e.2.1 < n) (h : ∀ v, v < n → C v = C' v) (v : Nat) : dg C L v = dg C' L v := by
  unfold dg
  congr 1
  refine List.map_congr_left (fun e he => ?_)
  obtain ⟨a, b⟩ := hI e he
  unfold inc
  rw [h _ a, h _ b]
theorem Dc.tkw {W : World} {cb gb n : Nat} {C : Nat → Int} {L : List T3} (h : Dc W cb gb n C) (hI : ∀ e ∈ L, e.1 < n ∧ e.2.1 < n) (k : Int) : an (tk (dI L (cgw W cb gb)) (cgw W cb gb) k) n = an (tk (dI L C) C k) n := an_ext (fun v hv => by
  unfold tk lb dI
  rw [dg_ext hI (fun v hv => h.cg v hv) v, h.cg v hv])
theorem lf_up {C : Nat → Int} {n v : Nat} {k : Int} (hv : v < n) (hb : lb C v = true) (hk : k ≠ NN) : lf (up C v k) n + 1 = lf C n := by
  induction n with
  | zero => omega
  | succ n ih =>
    simp only [lf]
    by_cases e : v = n
    · subst e
      have h1 : lf (up C v k) v = lf C v := lf_ext (fun u hu => up_ne _ _ _ _ (by omega))
      have h2 : lb (up C v k) v = false := by unfold lb; rw [up_eq]; simpa using hk
      rw [h1, h2, hb]; simp
    · have := ih (by omega)
      have h2 : lb (up C v k) n = lb C n := by unfold lb; rw [up_ne _ _ _ _ (fun h => e h.symm)]
      rw [h2]; omega
theorem lf_all (n : Nat) : lf (fun _ => NN) n = n := by
  induction n with
  | zero => rfl
  | succ n ih => simp only [lf, ih]; simp [lb]
/-- One vertex taken, or not. -/
def cj (D C : Nat → Int) (k : Int) (j : Nat) : Nat → Int := fun v => if v < j then nC D C k v else C v
theorem cj_t {D C : Nat → Int} {k : Int} {j : Nat} (h : tk D C k j = true) : cj D C k (j + 1) = up (cj D C k j) j k := by
  funext v
  unfold cj
  by_cases e : v = j
  · subst e; rw [up_eq, if_pos (by omega)]; unfold nC; rw [if_pos h]
  · rw [up_ne _ _ _ _ e]
    by_cases e2 : v < j
    · rw [if_pos e2, if_pos (by omega)]
    · rw [if_neg e2, if_neg (by omega)]
theorem cj_f {D C : Nat → Int} {k : Int} {j : Nat} (h : tk D C k j = false) : cj D C k (j + 1) = cj D C k j := by
  funext v
  unfold cj
  by_cases e : v = j
  · subst e; rw [if_pos (by omega), if_neg (by omega)]; unfold nC; rw [if_neg (by simp [h])]
  · by_cases e2 : v < j
    · rw [if_pos e2, if_pos (by omega)]
    · rw [if_neg e2, if_neg (by omega)]
theorem cj_at (D C : Nat → Int) (k : Int) (j : Nat) : cj D C k j j = C j := if_neg (Nat.lt_irrefl j)
theorem cj_n {D C : Nat → Int} {k : Int} {n : Nat} (v : Nat) (hv : v < n) : cj D C k n v = nC D C k v := if_pos hv
end Au
end Go.Proofs.Ytcepfmeoeepjdaa
