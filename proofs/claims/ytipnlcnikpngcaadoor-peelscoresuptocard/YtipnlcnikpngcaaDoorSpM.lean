import Derived.Test.YtipnlcnikpngcaaDoorSpL
namespace Go.Proofs.YtipnlcnikpngcaaDoor
namespace Wp
open Go.RowKit
set_option linter.unusedVariables false
set_option maxRecDepth 8000
/-- What is sent, to whom. -/
def sndL (r : Int × Int × Bool) (to : Nat) : List (Nat × Int × Int) := if r.2.2 = true then [(to, r.1, r.2.1)] else []
def usE (g : Pg) (C : Nat → Int) (S : Nat → Nat → Int) (x y : Nat) : List (Nat × Int × Int) := sndL (g.sc C (S x) x y false) y ++ sndL (g.sc C (S y) x y true) x
/-- What goes along the first i edges. -/
def us (g : Pg) (C : Nat → Int) (S : Nat → Nat → Int) (E : Nat → Int × Int × Int) : Nat → List (Nat × Int × Int)
  | 0 => []
  | i + 1 => us g C S E i ++ usE g C S (E i).1.toNat (E i).2.1.toNat
def g1 (g : Pg) (N : Nat → Nat → Int) (u : Nat × Int × Int) : Nat → Nat → Int := ups N u.1 (g.mb (g.ma (N u.1) u.2.1) u.2.2)
/-- What has come, gathered. -/
def gat (g : Pg) (N : Nat → Nat → Int) (l : List (Nat × Int × Int)) : Nat → Nat → Int := l.foldl (g1 g) N
/-- The order in which it is gathered. -/
def ord (p : Bool) (l : List (Nat × Int × Int)) : List (Nat × Int × Int) := if p = true then l.reverse else l
/-- The states behind a round. -/
def nxS (g : Pg) (C : Nat → Int) (S : Nat → Nat → Int) (E : Nat → Int × Int × Int) (m : Nat) (p : Bool) : Nat → Nat → Int := fun v => (g.ap C v (gat g S (ord p (us g C S E m)) v)).1
/-- Ctl and states behind r rounds. -/
def rst (g : Pg) (E : Nat → Int × Int × Int) (m n : Nat) (par : Nat → Bool) : Nat → (Nat → Int) × (Nat → Nat → Int)
  | 0 => (fun _ => 0, fun v => g.st (outs E m v) (ins E m v))
  | r + 1 => ((g.tu (rst g E m n par r).1 (fs g (nxS g (rst g E m n par r).1 (rst g E m n par r).2 E m (par (r + 1))) n)).1, nxS g (rst g E m n par r).1 (rst g E m n par r).2 E m (par (r + 1)))
/-- Is the run done behind round r + 1? -/
def dn (g : Pg) (E : Nat → Int × Int × Int) (m n : Nat) (par : Nat → Bool) (r : Nat) : Bool := (g.tu (rst g E m n par r).1 (fs g (rst g E m n par (r + 1)).2 n)).2
theorem sndL_len (r : Int × Int × Bool) (to : Nat) : (sndL r to).length ≤ 1 := by unfold sndL; split <;> simp
theorem us_len (g : Pg) (C : Nat → Int) (S : Nat → Nat → Int) (E : Nat → Int × Int × Int) (i : Nat) : (us g C S E i).length ≤ 2 * i := by
  induction i with
  | zero => simp [us]
  | succ i ih =>
    have h1 := sndL_len (g.sc C (S (E i).1.toNat) (E i).1.toNat (E i).2.1.toNat false) (E i).2.1.toNat
    have h2 := sndL_len (g.sc C (S (E i).2.1.toNat) (E i).1.toNat (E i).2.1.toNat true) (E i).1.toNat
    simp only [us, usE, List.length_append]
    omega
/-- Updates that may be: to a vertex, with words that may be gathered. -/
def Uok (g : Pg) (n : Nat) (l : List (Nat × Int × Int)) : Prop := ∀ u ∈ l, u.1 < n ∧ g.okU u.2.1 u.2.2
theorem us_ok {g : Pg} {n fb B : Nat} {w : World} (hO : Ob g n fb B w) (hn : n ≤ 1000) (C : Nat → Int) (S : Nat → Nat → Int) (E : Nat → Int × Int × Int) (m : Nat) (hI : EIn n m E) : ∀ i, i ≤ m → Uok g n (us g C S E i) := by
  intro i
  induction i with
  | zero => intro _ u hu; simp [us] at hu
  | succ i ih =>
    intro hi u hu
    obtain ⟨x, y, hx, hy, hxn, hyn⟩ := hI i (by omega)
    have ex : (E i).1.toNat = x := by omega
    have ey : (E i).2.1.toNat = y := by omega
    simp only [us, usE, ex, ey, List.mem_append] at hu
    rcases hu with h | h | h
    · exact ih (by omega) u h
    · unfold sndL at h
      split at h
      · simp at h; subst h; exact ⟨hyn, hO.csc C _ x y false hxn hyn hn⟩
      · simp at h
    · unfold sndL at h
      split at h
      · simp at h; subst h; exact ⟨hxn, hO.csc C _ x y true hxn hyn hn⟩
      · simp at h
theorem ord_ok {g : Pg} {n : Nat} {l : List (Nat × Int × Int)} (h : Uok g n l) (p : Bool) : Uok g n (ord p l) := by
  unfold ord
  split
  · intro u hu; exact h u (by simpa using hu)
  · exact h
theorem ord_len (p : Bool) (l : List (Nat × Int × Int)) : (ord p l).length = l.length := by unfold ord; split <;> simp
theorem gat_ok {g : Pg} {n fb B : Nat} {w : World} (hO : Ob g n fb B w) (l : List (Nat × Int × Int)) : ∀ N, (∀ v, g.okS (N v)) → Uok g n l → ∀ v, g.okS (gat g N l v) := by
  induction l with
  | nil => intro N h _ v; exact h v
  | cons u l ih =>
    intro N h hu v
    refine ih (g1 g N u) (fun v => ?_) (fun z hz => hu z (List.mem_cons_of_mem _ hz)) v
    have hk := hu u List.mem_cons_self
    unfold g1 ups
    split
    · exact hO.cmb _ _ _ (hO.cma _ _ _ (h _) hk.2) hk.2
    · exact h v
theorem gat_snoc (g : Pg) (N : Nat → Nat → Int) (l : List (Nat × Int × Int)) (u : Nat × Int × Int) : gat g N (l ++ [u]) = g1 g (gat g N l) u := by unfold gat; simp
theorem fs_ok {g : Pg} {n fb B : Nat} {w : World} (hO : Ob g n fb B w) (S : Nat → Nat → Int) (h : ∀ v, g.okS (S v)) (v : Nat) : g.okA (fs g S v) := by
  induction v with
  | zero => exact hO.a0
  | succ v ih => exact hO.cfo _ _ ih (h v)
/-- A ctl and states that may be. -/
def Gd (g : Pg) (C : Nat → Int) (S : Nat → Nat → Int) : Prop := g.okC C ∧ ∀ v, g.okS (S v)
theorem nxS_ok {g : Pg} {n fb B : Nat} {w : World} (hO : Ob g n fb B w) (hn : n ≤ 1000) {C : Nat → Int} {S : Nat → Nat → Int} (h : Gd g C S) (E : Nat → Int × Int × Int) (m : Nat) (hI : EIn n m E) (p : Bool) : ∀ v, g.okS (nxS g C S E m p v) :=
  fun v => hO.cap _ _ _ h.1 (gat_ok hO _ _ h.2 (ord_ok (us_ok hO hn C S E m hI m (Nat.le_refl _)) p) v)
theorem rst_ok {g : Pg} {n fb B : Nat} {w : World} (hO : Ob g n fb B w) (hn : n ≤ 1000) (E : Nat → Int × Int × Int) (m : Nat) (hI : EIn n m E) (par : Nat → Bool) (r : Nat) : Gd g (rst g E m n par r).1 (rst g E m n par r).2 := by
  induction r with
  | zero => exact ⟨hO.c0, fun v => hO.cst _ _⟩
  | succ r ih =>
    have h := nxS_ok hO hn ih E m hI (par (r + 1))
    exact ⟨hO.ctu _ _ ih.1 (fs_ok hO _ h n), h⟩
/-- What lies where between two statements of a round. -/
structure RI (g : Pg) (sb cb kb ab n : Nat) (C A : Nat → Int) (S : Nat → Nat → Int) (w wr : World) : Prop where
  t : Below w.heap.size w wr
  s : SR wr sb n S
  c : wr.heap[cb]? = some (.cells (cv C) 65 (0, 0))
  k : wr.heap[kb]? = some (.cells (kv g.A g.M g.B g.K) 73 (0, 0))
  a : wr.heap[ab]? = some (.cells (sv A) 41 (0, 0))
  b : w.heap.size ≤ sb ∧ w.heap.size ≤ cb ∧ w.heap.size ≤ kb ∧ w.heap.size ≤ ab
  d : sb ≠ cb ∧ sb ≠ kb ∧ sb ≠ ab ∧ cb ≠ kb ∧ cb ≠ ab ∧ kb ≠ ab
theorem RI.on {g : Pg} {sb cb kb ab n : Nat} {C A : Nat → Int} {S : Nat → Nat → Int} {w wr w' : World} (h : RI g sb cb kb ab n C A S w wr) (hb : Below wr.heap.size wr w') : RI g sb cb kb ab n C A S w w' :=
  ⟨h.t.trans (hb.mono h.t.size), h.s.on hb, (hb.block _ (lt_of_some h.c)).trans h.c, (hb.block _ (lt_of_some h.k)).trans h.k, (hb.block _ (lt_of_some h.a)).trans h.a, h.b, h.d⟩
theorem RI.setS {g : Pg} {sb cb kb ab n : Nat} {C A : Nat → Int} {S S' : Nat → Nat → Int} {w wr : World} (h : RI g sb cb kb ab n C A S w wr) (D : Array Value) (hs : SR (wr.setRow sb D) sb n S') : RI g sb cb kb ab n C A S' w (wr.setRow sb D) :=
  ⟨below_setRow h.t h.b.1 _, hs, (setRow_other _ _ _ _ (Ne.symm h.d.1)).trans h.c, (setRow_other _ _ _ _ (Ne.symm h.d.2.1)).trans h.k, (setRow_other _ _ _ _ (Ne.symm h.d.2.2.1)).trans h.a, h.b, h.d⟩
theorem RI.setC {g : Pg} {sb cb kb ab n : Nat} {C A : Nat → Int} {S : Nat → Nat → Int} {w wr : World} (h : RI g sb cb kb ab n C A S w wr) (D : Nat → Int) : RI g sb cb kb ab n D A S w (wr.setRow cb (cv D)) :=
  ⟨below_setRow h.t h.b.2.1 _, h.s.of (setRow_other _ _ _ _ h.d.1), setRow_heap _ _ _ _ 65 (0, 0) h.c, (setRow_other _ _ _ _ (Ne.symm h.d.2.2.2.1)).trans h.k, (setRow_other _ _ _ _ (Ne.symm h.d.2.2.2.2.1)).trans h.a, h.b, h.d⟩
theorem RI.setA {g : Pg} {sb cb kb ab n : Nat} {C A : Nat → Int} {S : Nat → Nat → Int} {w wr : World} (h : RI g sb cb kb ab n C A S w wr) (D : Nat → Int) : RI g sb cb kb ab n C D S w (wr.setRow ab (sv D)) :=
  ⟨below_setRow h.t h.b.2.2.2 _, h.s.of (setRow_other _ _ _ _ h.d.2.2.1), (setRow_other _ _ _ _ h.d.2.2.2.2.1).trans h.c, (setRow_other _ _ _ _ h.d.2.2.2.2.2).trans h.k, setRow_heap _ _ _ _ 41 (0, 0) h.a, h.b, h.d⟩
theorem RI.ext {g : Pg} {sb cb kb ab n : Nat} {C A : Nat → Int} {S S' : Nat → Nat → Int} {w wr : World} (h : RI g sb cb kb ab n C A S w wr) (e : ∀ v, v < n → S v = S' v) : RI g sb cb kb ab n C A S' w wr := by
  refine ⟨h.t, ?_, h.c, h.k, h.a, h.b, h.d⟩
  obtain ⟨D, h1, h2⟩ := h.s
  exact ⟨D, h1, fun v hv i hi => by rw [← e v hv]; exact h2 v hv i hi⟩
/-- The cells of a list of updates. -/
def ul : List (Nat × Int × Int) → List Value
  | [] => []
  | u :: l => .int .u32 (u.1 : Int) :: .int .u64 u.2.1 :: .int .u64 u.2.2 :: ul l
theorem ul_snoc (l : List (Nat × Int × Int)) (u : Nat × Int × Int) : ul (l ++ [u]) = ul l ++ [.int .u32 (u.1 : Int), .int .u64 u.2.1, .int .u64 u.2.2] := by
  induction l with
  | nil => rfl
  | cons x l ih => simp only [List.cons_append, ul, ih]
theorem ul_len (l : List (Nat × Int × Int)) : (ul l).length = l.length * 3 := by
  induction l with
  | nil => rfl
  | cons x l ih => simp only [ul, List.length_cons, ih]; omega
theorem ul_get (l : List (Nat × Int × Int)) (k : Nat) (u : Nat × Int × Int) (h : l[k]? = some u) : (ul l)[k * 3]? = some (.int .u32 (u.1 : Int)) ∧ (ul l)[k * 3 + 1]? = some (.int .u64 u.2.1) ∧ (ul l)[k * 3 + 2]? = some (.int .u64 u.2.2) := by
  induction l generalizing k with
  | nil => simp at h
  | cons x l ih =>
    cases k with
    | zero => simp at h; subst h; exact ⟨rfl, rfl, rfl⟩
    | succ k =>
      have := ih k (by simpa using h)
      rw [show (k + 1) * 3 = k * 3 + 3 by omega, show k * 3 + 3 + 1 = k * 3 + 1 + 3 by omega, show k * 3 + 3 + 2 = k * 3 + 2 + 3 by omega]
      exact this
/-- The cells of one update that lies in a row of our own. -/
theorem own_us {w : World} {B : Nat} {v : Value} {l : List (Nat × Int × Int)} (h : w.ownsRow B 81 3 v l.length (ul l)) (hl : 0 < l.length) : ∃ g cap, v = .slice (some ⟨g, 0, none⟩) l.length cap ∧ B ≤ g ∧ g < w.heap.size ∧ ∀ k u, l[k]? = some u → w.cell? ⟨g, k * 3, none⟩ = some (.int .u32 (u.1 : Int)) ∧ w.cell? ⟨g, k * 3 + 1, none⟩ = some (.int .u64 u.2.1) ∧ w.cell? ⟨g, k * 3 + 2, none⟩ = some (.int .u64 u.2.2) := by
  obtain ⟨h1, h2⟩ := h
  rcases h2 with ⟨rfl, h0⟩ | ⟨g, cap, cur, rfl, h3, h4, h5, h6, h7, h8⟩
  · omega
  · refine ⟨g, cap, rfl, h3, lt_of_some h4, fun k u hk => ?_⟩
    have hlt := (List.getElem?_eq_some_iff.1 hk).1
    obtain ⟨c1, c2, c3⟩ := ul_get l k u hk
    rw [← h8, List.getElem?_take, if_pos (by omega)] at c1 c2 c3
    refine ⟨?_, ?_, ?_⟩
    · exact (cell_of_row w g _ _ 81 (0, 0) h4).trans (by simpa using c1)
    · exact (cell_of_row w g _ _ 81 (0, 0) h4).trans (by simpa using c2)
    · exact (cell_of_row w g _ _ 81 (0, 0) h4).trans (by simpa using c3)
theorem make_st (w : World) (n : Nat) (hn : n ≤ 1000000) : (Instr.makeSlice 35 (.int .u32 (n : Int)) (.int .u32 (n : Int))).run Tryd.prog w = .ok (.slice (some ⟨w.heap.size, 0, none⟩) n n) (w.alloc (.cells (madeCells z8 (n * 8)) 41)) := by
  have h := infoS
  cases hh : Tryd.prog.info? 41 with
  | none => rw [hh] at h; cases h
  | some i =>
    rw [hh] at h
    simp at h
    have hr := run_make (P := Tryd.prog) w 35 41 i (.agg z8) Tryd.underlying35 hh h.1 .u32 .u32 n n (by omega) (by omega) (by rw [h.2.2]; omega) (by omega)
    rw [h.2.1] at hr
    simp only [Int.toNat_natCast] at hr
    rw [hr]
    rfl
theorem SR.new (w : World) (n : Nat) : SR (w.alloc (.cells (madeCells z8 (n * 8)) 41)) w.heap.size n (fun _ _ => 0) := by
  refine ⟨_, at0 _ _, fun v hv i hi => ?_⟩
  have h1 : v * 8 + i < n * 8 := by omega
  have h2 : (v * 8 + i) % 8 = i := by omega
  simp only [madeCells]
  simp [h1, h2]
  match i, hi with
  | 0, _ => rfl
  | 1, _ => rfl
  | 2, _ => rfl
  | 3, _ => rfl
  | 4, _ => rfl
  | 5, _ => rfl
  | 6, _ => rfl
  | 7, _ => rfl
end Wp
end Go.Proofs.YtipnlcnikpngcaaDoor
