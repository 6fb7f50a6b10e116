import Derived.Test.YtcepfmeoeepjdaaAuG
namespace Go.Proofs.Ytcepfmeoeepjdaa
namespace Au
open Go.RowKit
set_option linter.unusedVariables false
set_option maxRecDepth 8000
def Tp8 (t e : TypeId) : Prop := Try.prog.underlying t = some (.slice e) ∧ ∃ i z, Try.prog.info? e = some i ∧ i.zero = some z ∧ i.size = 8 ∧ i.bytes = 64 ∧ z.cells.size = 8
theorem infoS : (Try.prog.info? 63).map (fun i => (i.zero, i.size, i.bytes)) = some (some (.agg z8), 8, 64) := by kernel_rfl
theorem tp8 : Tp8 23 63 := by
  refine ⟨Try.underlying23, ?_⟩
  have h := infoS
  cases hh : Try.prog.info? 63 with
  | none => rw [hh] at h; cases h
  | some i =>
    rw [hh] at h
    simp at h
    exact ⟨i, .agg z8, rfl, h.1, h.2.1, h.2.2, rfl⟩
/-- What an append takes: nothing, or cells that lie somewhere. -/
def Src8 (w : World) (sv : Value) (m : Nat) (news : List Value) : Prop :=
  (sv = .slice none 0 0 ∧ m = 0 ∧ news = []) ∨ ∃ ad c, sv = .slice (some ad) m c ∧ news.length = m * 8 ∧ (∀ j u, news[j]? = some u → w.cell? (ad.add j) = some u) ∧ ∀ u ∈ news, u.oneCell' = true
theorem step_append8 {t e : TypeId} (hT : Tp8 t e) {w : World} {ops : Array Oper} {o : Oper} {a : Act} {K : Act → World → Prop} {Q : Exit → Act → World → Prop} {E : Prop} (hgd : o.guard = none) (s x : Operand)
    (ho : o.op = .call { callee := .builtin .append, args := #[s, x], argTypes := #[t, t] }) (base : Nat) (v sv : Value) (n m : Nat) (xs news : List Value) (hs : a.eval s = v) (hown : w.ownsRow base e 8 v n xs)
    (hx : a.eval x = sv) (hsrc : Src8 w sv m news) (h63 : (n + m) * 64 ≤ 140737488355328) (hbase : base ≤ w.heap.size)
    (h : ∀ v' w', w'.ownsRow base e 8 v' (n + m) (xs ++ news) → w.grownBy w' v.ownBlock → (v'.ownBlock = v.ownBlock ∨ v'.ownBlock = some w.heap.size) → K (a.put o.dst v') w') :
    if Region.wanted o (yielded ops a.tmps) = true then Oper.wp Try.prog o a w K Q else E := by
  have hw : Region.wanted o (yielded ops a.tmps) = true := by simp [Region.wanted, hgd]
  rw [if_pos hw]
  obtain ⟨hu, i0, z, hi, hz0, hz1, hz2, hz3⟩ := hT
  rcases hsrc with ⟨rfl, rfl, rfl⟩ | ⟨ad, c, rfl, hl, hc, h1⟩
  · have hr := run_append_owned_none (P := Try.prog) (w := w) base t o.type e i0 8 hu hi v n xs hown
    unfold Oper.wp execOp
    simp only [ho, resolve, invoke, builtin, Sem.run_bind, Sem.run_pure, Result.andThen_ok, List.map_toArray, List.map_cons, List.map_nil, hs, hx, hr]
    exact h v w (by simpa using hown) (grown_refl _ _) (Or.inl rfl)
  · obtain ⟨v', w', hr, h2, h3, h4, h5⟩ := run_append_own_at (P := Try.prog) w base t o.type e i0 z 8 64 hu hi hz0 hz1 hz2 hz3 (by decide) v n xs hown ad m c news (by omega) hc h1 (by unfold maxLen; omega) (by omega) hbase
    unfold Oper.wp execOp
    simp only [ho, resolve, invoke, builtin, Sem.run_bind, Sem.run_pure, Result.andThen_ok, List.map_toArray, List.map_cons, List.map_nil, hs, hx, hr]
    exact h v' w' h2 h3 h5
theorem wpList_append8 {t e : TypeId} (hT : Tp8 t e) {w : World} {ops : Array Oper} {rest : List Oper} {o : Oper} {a : Act} {Q : Exit → Act → World → Prop} (hgd : o.guard = none) (s x : Operand)
    (ho : o.op = .call { callee := .builtin .append, args := #[s, x], argTypes := #[t, t] }) (base : Nat) (v sv : Value) (n m : Nat) (xs news : List Value) (hs : a.eval s = v) (hown : w.ownsRow base e 8 v n xs)
    (hx : a.eval x = sv) (hsrc : Src8 w sv m news) (h63 : (n + m) * 64 ≤ 140737488355328) (hbase : base ≤ w.heap.size)
    (h : ∀ v' w', w'.ownsRow base e 8 v' (n + m) (xs ++ news) → w.grownBy w' v.ownBlock → (v'.ownBlock = v.ownBlock ∨ v'.ownBlock = some w.heap.size) → wpList Try.prog ops Q rest (a.put o.dst v') w') : wpList Try.prog ops Q (o :: rest) a w := by
  obtain ⟨hu, i0, z, hi, hz0, hz1, hz2, hz3⟩ := hT
  rcases hsrc with ⟨rfl, rfl, rfl⟩ | ⟨ad, c, rfl, hl, hc, h1⟩
  · refine wpList_append_own_none hgd s x t ho base e i0 8 hu hi v n xs hs hown hx ?_
    exact h v w (by simpa using hown) (grown_refl _ _) (Or.inl rfl)
  · exact wpList_append_own_at w hgd s x t ho base e i0 z 8 64 hu hi hz0 hz1 hz2 hz3 (by decide) v n xs hs hown ad m c news hx (by omega) hc h1 (by unfold maxLen; omega) (by omega) hbase (fun v' w' h2 h3 _ h5 => h v' w' h2 h3 h5)
theorem cell_new (v : World) (N : Nat) (c : Array Value) (t : TypeId) (i : Nat) (x : Value) (hN : v.heap.size = N) (h : c[i]? = some x) : (v.alloc (.cells c t)).cell? ⟨N, i, none⟩ = some x := by
  subst hN
  have h1 : (v.alloc (.cells c t)).heap[v.heap.size]? = some (.cells c t) := at0 v _
  simp only [World.cell?, h1, h]
  rfl
/-- One state in a new block. -/
theorem src_new8 (w : World) (s : Nat → Int) (t : TypeId) (c : Nat) : Src8 (w.alloc (.cells (sv s) t)) (.slice (some ⟨w.heap.size, 0, none⟩) 1 c) 1 (sv s).toList := by
  refine Or.inr ⟨_, _, rfl, rfl, ?_, ?_⟩
  · intro j u hj
    rw [add0]
    exact cell_new w _ _ t j u rfl (by simpa using hj)
  · intro u hu
    simp at hu
    rcases hu with rfl | rfl | rfl | rfl | rfl | rfl | rfl | rfl <;> rfl
/-- The cells of the first k states. -/
def cs (S : Nat → Nat → Int) : Nat → List Value
  | 0 => []
  | k + 1 => cs S k ++ (sv (S k)).toList
theorem cs_len (S : Nat → Nat → Int) (k : Nat) : (cs S k).length = k * 8 := by
  induction k with
  | zero => rfl
  | succ k ih => simp only [cs, List.length_append, ih]; simp; omega
theorem cs_get (S : Nat → Nat → Int) (k v i : Nat) (hv : v < k) (hi : i < 8) : (cs S k)[v * 8 + i]? = some (.int .u64 (S v i)) := by
  induction k with
  | zero => omega
  | succ k ih =>
    simp only [cs]
    by_cases h : v < k
    · rw [List.getElem?_append_left (by rw [cs_len]; omega)]
      exact ih h
    · have hk : v = k := by omega
      subst hk
      rw [List.getElem?_append_right (by rw [cs_len]; omega), cs_len, show v * 8 + i - v * 8 = i by omega]
      have := sv_get (S v) i hi
      simpa using this
/-- A list of states as it lies. -/
def SR (w : World) (b n : Nat) (S : Nat → Nat → Int) : Prop := ∃ C : Array Value, w.heap[b]? = some (.cells C 63 (0, 0)) ∧ ∀ v, v < n → ∀ i, i < 8 → C[v * 8 + i]? = some (.int .u64 (S v i))
theorem SR.lt {w : World} {b n : Nat} {S : Nat → Nat → Int} (h : SR w b n S) : b < w.heap.size := by
  obtain ⟨C, h, _⟩ := h
  exact lt_of_some h
theorem SR.of {w w' : World} {b n : Nat} {S : Nat → Nat → Int} (h : SR w b n S) (e : w'.heap[b]? = w.heap[b]?) : SR w' b n S := by
  obtain ⟨C, h, h2⟩ := h
  exact ⟨C, e.trans h, h2⟩
theorem SR.on {X : Nat → Prop} {w w' : World} {b n : Nat} {S : Nat → Nat → Int} (h : SR w b n S) (hb : Ch X w w') (hx : ¬ X b) : SR w' b n S := h.of (hb.block b h.lt hx)
theorem SR.c {w : World} {b n : Nat} {S : Nat → Nat → Int} (h : SR w b n S) (v : Nat) (hv : v < n) (i : Nat) (hi : i < 8) : w.cell? ⟨b, v * 8 + i, none⟩ = some (.int .u64 (S v i)) := by
  obtain ⟨C, h, h2⟩ := h
  exact (cell_of_row w b _ _ 63 (0, 0) h).trans (h2 v hv i hi)
/-- A list of our own holds the states. -/
theorem own_sr {w : World} {B : Nat} {v : Value} {n : Nat} {S : Nat → Nat → Int} (h : w.ownsRow B 63 8 v n (cs S n)) (hn : 0 < n) : ∃ g cap, v = .slice (some ⟨g, 0, none⟩) n cap ∧ B ≤ g ∧ n ≤ cap ∧ SR w g n S := by
  obtain ⟨h1, h2⟩ := h
  rcases h2 with ⟨rfl, h0⟩ | ⟨g, cap, cur, rfl, h3, h4, h5, h6, h7, h8⟩
  · omega
  · refine ⟨g, cap, rfl, h3, h5, cur, h4, fun u hu i hi => ?_⟩
    have hg := cs_get S n u i hu hi
    rw [← h8, List.getElem?_take, if_pos (by omega)] at hg
    simpa using hg
theorem cs_ext (S T : Nat → Nat → Int) (k : Nat) (h : ∀ v, v < k → S v = T v) : cs S k = cs T k := by
  induction k with
  | zero => rfl
  | succ k ih => simp only [cs]; rw [ih (fun v hv => h v (by omega)), h k (by omega)]
/-- States as they come in. -/
def At8 (w : World) (x : Addr) (n : Nat) (S : Nat → Nat → Int) : Prop := x.block < w.heap.size ∧ ∀ v, v < n → ∀ i, i < 8 → w.cell? (x.add (v * 8 + i)) = some (.int .u64 (S v i))
def Row8 (w : World) (a : Option Addr) (n : Nat) (S : Nat → Nat → Int) : Prop := 0 < n → ∃ x, a = some x ∧ At8 w x n S
theorem Row8.on {w w' : World} {a : Option Addr} {n B : Nat} {S : Nat → Nat → Int} (h : Row8 w a n S) (hb : Below B w w') (hB : w.heap.size ≤ B) : Row8 w' a n S := fun h0 => by
  obtain ⟨x, e, h1, h2⟩ := h h0
  exact ⟨x, e, Nat.lt_of_lt_of_le h1 hb.size, fun v hv i hi => (hb.cell (p := x.add (v * 8 + i)) (by rw [add_block]; omega)).trans (h2 v hv i hi)⟩
theorem Row8.ch {X : Nat → Prop} {w w' : World} {a : Option Addr} {n B : Nat} {S : Nat → Nat → Int} (h : Row8 w a n S) (hc : Ch X w w') (hX : ∀ k, X k → w.heap.size ≤ k) : Row8 w' a n S := h.on (hc.below (B := w.heap.size) (fun k hk hx => by have := hX k hx; omega) (Nat.le_refl _)) (Nat.le_refl _)
abbrev K8i (x : Addr) (v : Nat) (s : Nat → Int) (w : World) : Prop := w.cell? (x.add (v * 8)) = some (.int .u64 (s 0)) ∧ w.cell? ⟨(x.add (v * 8)).block, (x.add (v * 8)).off + 1, none⟩ = some (.int .u64 (s 1)) ∧ w.cell? ⟨(x.add (v * 8)).block, (x.add (v * 8)).off + 2, none⟩ = some (.int .u64 (s 2)) ∧ w.cell? ⟨(x.add (v * 8)).block, (x.add (v * 8)).off + 3, none⟩ = some (.int .u64 (s 3)) ∧ w.cell? ⟨(x.add (v * 8)).block, (x.add (v * 8)).off + 4, none⟩ = some (.int .u64 (s 4)) ∧ w.cell? ⟨(x.add (v * 8)).block, (x.add (v * 8)).off + 5, none⟩ = some (.int .u64 (s 5)) ∧ w.cell? ⟨(x.add (v * 8)).block, (x.add (v * 8)).off + 6, none⟩ = some (.int .u64 (s 6)) ∧ w.cell? ⟨(x.add (v * 8)).block, (x.add (v * 8)).off + 7, none⟩ = some (.int .u64 (s 7))
theorem At8.k {w : World} {x : Addr} {n : Nat} {S : Nat → Nat → Int} (h : At8 w x n S) (v : Nat) (hv : v < n) : K8i x v (S v) w := by
  have e : ∀ i, 0 < i → i < 8 → w.cell? ⟨(x.add (v * 8)).block, (x.add (v * 8)).off + i, none⟩ = some (.int .u64 (S v i)) := fun i h0 hi => by
    have := h.2 v hv i hi
    rw [← Addr.add_add] at this
    unfold Addr.add at this ⊢
    split at this <;> simp_all
  exact ⟨h.2 v hv 0 (by decide), e 1 (by decide) (by decide), e 2 (by decide) (by decide), e 3 (by decide) (by decide), e 4 (by decide) (by decide), e 5 (by decide) (by decide), e 6 (by decide) (by decide), e 7 (by decide) (by decide)⟩
abbrev K8o (b o : Nat) (c : Nat → Int) (w : World) : Prop := w.cell? ⟨b, o, none⟩ = some (.int .u64 (c 0)) ∧ w.cell? ⟨b, o + 1, none⟩ = some (.int .u64 (c 1)) ∧ w.cell? ⟨b, o + 2, none⟩ = some (.int .u64 (c 2)) ∧ w.cell? ⟨b, o + 3, none⟩ = some (.int .u64 (c 3)) ∧ w.cell? ⟨b, o + 4, none⟩ = some (.int .u64 (c 4)) ∧ w.cell? ⟨b, o + 5, none⟩ = some (.int .u64 (c 5)) ∧ w.cell? ⟨b, o + 6, none⟩ = some (.int .u64 (c 6)) ∧ w.cell? ⟨b, o + 7, none⟩ = some (.int .u64 (c 7))
theorem SR.k8 {w : World} {b n : Nat} {S : Nat → Nat → Int} (h : SR w b n S) (v : Nat) (hv : v < n) : K8o b (v * 8) (S v) w :=
  ⟨h.c v hv 0 (by decide), h.c v hv 1 (by decide), h.c v hv 2 (by decide), h.c v hv 3 (by decide), h.c v hv 4 (by decide), h.c v hv 5 (by decide), h.c v hv 6 (by decide), h.c v hv 7 (by decide)⟩
def mark (x : Int) : Nat → Int := fun i => if i < 3 then x else 0
/-- What states makes of a list of n, cut to m. -/
def mk (n m : Nat) (S : Nat → Nat → Int) : Nat → Nat → Int := fun v => if v < m then (if v < n then S v else fun _ => 0) else if v = m then mark 77 else mark 78
theorem src2 (w : World) (s t : Nat → Int) (ty : TypeId) (c : Nat) : Src8 (w.alloc (.cells (sv s ++ sv t) ty)) (.slice (some ⟨w.heap.size, 0, none⟩) 2 c) 2 ((sv s).toList ++ (sv t).toList) := by
  refine Or.inr ⟨_, _, rfl, rfl, ?_, ?_⟩
  · intro j u hj
    rw [add0]
    exact cell_new w _ _ ty j u rfl (by simpa using hj)
  · intro u hu
    simp at hu
    rcases hu with h | h | h | h | h | h | h | h | h | h | h | h | h | h | h | h <;> (subst h; rfl)
theorem own_nil (w : World) (t : TypeId) (B n : Nat) : w.ownsRow B t n (.slice none 0 0) 0 [] := ⟨by simp, .inl ⟨rfl, rfl⟩⟩
set_option maxHeartbeats 4000000 in
theorem states_any (a : Option Addr) (n c m : Nat) (S : Nat → Nat → Int) (hm : m * 64 ≤ 140737488351232) (hn : n * 64 ≤ 140737488351232) (w : World) (hr : Row8 w a n S) :
    Calls Try.prog 9 #[.slice a n c, .int .i64 (m : Int)] w fun e w' => ∃ g cap, e = .returned (.slice (some ⟨g, 0, none⟩) m cap) ∧ m + 2 ≤ cap ∧ w.heap.size ≤ g ∧ SR w' g (m + 2) (mk n m S) ∧ Below w.heap.size w w' := by
  have HR := hide hr
  clear hr
  go_enter Try.func9, Try.ntmps9
  go_wp2_with (fail)
  go_loopw [5, 6] (fun v t wr => ∃ k : Nat, k ≤ m ∧ t = .int .i64 k ∧ Hid (wr.ownsRow w.heap.size 63 8 v k (cs (mk n m S) k)) ∧ Hid (Below w.heap.size w wr)) (fun _ t _ => m - (intOf t).toNat)
  case atStart => exact ⟨0, Nat.zero_le _, rfl, own_nil _ _ _ _, Below.refl _ _⟩
  case round =>
    obtain ⟨k, hk, rfl, HO, HB⟩ := hrel
    obtain ⟨v, hv5⟩ : ∃ v, v = u5 := ⟨_, rfl⟩
    subst hv5
    by_cases cc : k < m
    · have hcc : (k : Int) < (m : Int) := by omega
      have hbs := HB.out.size
      obtain ⟨s, hs⟩ : ∃ s, mk n m S k = s := ⟨_, rfl⟩
      have HO1 : Hid (((wr.alloc (.cells (sv s) 63)).alloc (.cells (sv s) 63)).ownsRow w.heap.size 63 8 v k (cs (mk n m S) k)) := (HO.out.alloc _).alloc _
      have HS : Hid (∀ c, Src8 ((wr.alloc (.cells (sv s) 63)).alloc (.cells (sv s) 63)) (.slice (some ⟨wr.heap.size + 1, 0, none⟩) 1 c) 1 (sv s).toList) := fun c => by
        have := src_new8 (wr.alloc (.cells (sv s) 63)) s 63 c
        simpa using this
      have HB1 : Hid (Below w.heap.size w ((wr.alloc (.cells (sv s) 63)).alloc (.cells (sv s) 63))) := bA (bA HB.out hbs _) (by simp only [World.size_alloc]; omega) _
      have HX : Hid (∀ v' w', w'.ownsRow w.heap.size 63 8 v' (k + 1) (cs (mk n m S) k ++ (sv s).toList) → ((wr.alloc (.cells (sv s) 63)).alloc (.cells (sv s) 63)).grownBy w' v.ownBlock → w'.ownsRow w.heap.size 63 8 v' (k + 1) (cs (mk n m S) (k + 1)) ∧ Below w.heap.size w w') := fun v' w' h1 h2 => by
        refine ⟨by simp only [cs]; rw [hs]; exact h1, HB1.out.grown h2 (by simp only [World.size_alloc]; omega) (fun j hj => (HO1.out.lt j hj).1)⟩
      by_cases ck : k < n
      · have hck : (k : Int) < (n : Int) := by omega
        obtain ⟨x, rfl, hx⟩ := HR.out (by omega)
        obtain ⟨q0, q1, q2, q3, q4, q5, q6, q7⟩ := (show At8 (wr.alloc (.cells z8 63)) x n S from by
          obtain ⟨x', e', hx'⟩ := (HR.out.on (bA HB.out hbs (.cells z8 63)) (Nat.le_refl _)) (by omega)
          cases e'; exact hx').k k ck
        have hsk : s = S k := by rw [← hs]; unfold mk; rw [if_pos cc, if_pos ck]
        rw [← hsk] at q0 q1 q2 q3 q4 q5 q6 q7
        clear hx hs hsk
        go_wp2_with (at_builtin; refine wpList_append8 tp8 rfl _ _ rfl w.heap.size _ _ k 1 _ _ rfl HO1.out rfl (HS.out _) (by omega) (by simp only [World.size_alloc]; omega) ?_)
        intro v1 w1 hown1 hgr1 hat1
        have HE := hide (HX.out v1 w1 hown1 hgr1)
        clear hown1 hgr1 hat1 q0 q1 q2 q3 q4 q5 q6 q7 HX HO1 HS HB1
        go_wp2
        exact ⟨⟨k + 1, cc, by go_num, HE.out.1, HE.out.2⟩, by simp [intOf]; omega⟩
      · have hck : ¬ (k : Int) < (n : Int) := by omega
        have hsk : s = fun _ => 0 := by rw [← hs]; unfold mk; rw [if_pos cc, if_neg ck]
        clear hs
        subst hsk
        go_wp2_with (at_builtin; refine wpList_append8 tp8 rfl _ _ rfl w.heap.size _ _ k 1 _ _ rfl HO1.out rfl (HS.out _) (by omega) (by simp only [World.size_alloc]; omega) ?_)
        intro v1 w1 hown1 hgr1 hat1
        have HE := hide (HX.out v1 w1 hown1 hgr1)
        clear hown1 hgr1 hat1 HX HO1 HS HB1
        go_wp2
        exact ⟨⟨k + 1, cc, by go_num, HE.out.1, HE.out.2⟩, by simp [intOf]; omega⟩
    · have hkm : m = k := by omega
      subst hkm
      have hbs := HB.out.size
      have hcc : ¬ (m : Int) < (m : Int) := by omega
      have HO1 : Hid ((wr.alloc (.cells (sv (mark 77) ++ sv (mark 78)) 63)).ownsRow w.heap.size 63 8 v m (cs (mk n m S) m)) := HO.out.alloc _
      have HS : Hid (∀ c, Src8 (wr.alloc (.cells (sv (mark 77) ++ sv (mark 78)) 63)) (.slice (some ⟨wr.heap.size, 0, none⟩) 2 c) 2 ((sv (mark 77)).toList ++ (sv (mark 78)).toList)) := fun c => src2 wr _ _ 63 c
      have HX : Hid (∀ v' w', w'.ownsRow w.heap.size 63 8 v' (m + 2) (cs (mk n m S) m ++ ((sv (mark 77)).toList ++ (sv (mark 78)).toList)) → (wr.alloc (.cells (sv (mark 77) ++ sv (mark 78)) 63)).grownBy w' v.ownBlock → ∃ g cap, v' = .slice (some ⟨g, 0, none⟩) (m + 2) cap ∧ m + 2 ≤ cap ∧ w.heap.size ≤ g ∧ SR w' g (m + 2) (mk n m S) ∧ Below w.heap.size w w') := fun v' w' h1 h2 => by
        have e1 : mk n m S m = mark 77 := by unfold mk; rw [if_neg (by omega), if_pos rfl]
        have e2 : mk n m S (m + 1) = mark 78 := by unfold mk; rw [if_neg (by omega), if_neg (by omega)]
        have h3 : w'.ownsRow w.heap.size 63 8 v' (m + 2) (cs (mk n m S) (m + 2)) := by
          simp only [cs]; rw [e1, e2, List.append_assoc]; exact h1
        obtain ⟨g, cap, q1, q2, q3, q4⟩ := own_sr h3 (by omega)
        exact ⟨g, cap, q1, q3, q2, q4, (bA HB.out hbs _).grown h2 (by simp only [World.size_alloc]; omega) (fun j hj => (HO1.out.lt j hj).1)⟩
      go_wp2_with (at_builtin; refine wpList_append8 tp8 rfl _ _ rfl w.heap.size _ _ m 2 _ _ rfl HO1.out rfl (HS.out _) (by omega) (by simp only [World.size_alloc]; omega) ?_)
      intro v1 w1 hown1 hgr1 hat1
      obtain ⟨g, cap, rfl, q2, q3, q4, q5⟩ := HX.out v1 w1 hown1 hgr1
      have HE : Hid (SR w1 g (m + 2) (mk n m S) ∧ Below w.heap.size w w1) := ⟨q4, q5⟩
      clear hown1 hgr1 hat1 HX HO1 HS q4 q5
      have hmc : (m : Int) ≤ (cap : Int) := by omega
      go_wp2
      all_goals go_ret
      all_goals exact ⟨g, cap, rfl, q2, q3, HE.out⟩
theorem eq63 (s : Nat → Int) (w : World) : (Op.equalIn 10000 63 (.agg (sv s)) (.agg (sv s))).run Try.prog w = .ok true w := by
  have uU := Try.underlying28
  have aU := Try.isAgg28
  have zU := Try.sizeOf28
  rw [show (10000 : Nat) = 9999 + 1 from rfl, Op.equalIn]
  simp only [Sem.run_bind, run_underlying Try.underlying63, Result.andThen_ok]
  simp only [Std.Legacy.Range.forIn_eq_forIn_range', Std.Legacy.Range.size, Nat.sub_zero, Nat.add_sub_cancel, Nat.div_one, List.range'_succ, List.range'_zero, List.forIn_cons, List.forIn_nil]
  go_simp
theorem neq63 (s : Nat → Int) (w : World) : Sem.run Try.prog (binOp BinOp.neq 63 (.agg (sv s)) (.agg (sv s))) w = .ok (.bool false) w := by
  simp [binOp, Op.equal, show Op.maxDepth = 10000 from rfl, eq63]
theorem eql63 (s : Nat → Int) (w : World) : Sem.run Try.prog (binOp BinOp.eql 63 (.agg (sv s)) (.agg (sv s))) w = .ok (.bool true) w := by
  simp [binOp, Op.equal, show Op.maxDepth = 10000 from rfl, eq63]
theorem eq35 (b : Bool) (x y : Int) (w : World) : (Op.equalIn 10000 35 (.agg #[.bool b, .int .u32 x, .int .i64 y]) (.agg #[.bool b, .int .u32 x, .int .i64 y])).run Try.prog w = .ok true w := by
  have u1 := Try.underlying4
  have u2 := Try.underlying22
  have u3 := Try.underlying3
  have a1 := Try.isAgg4
  have a2 := Try.isAgg22
  have a3 := Try.isAgg3
  have z1 := Try.sizeOf4
  have z2 := Try.sizeOf22
  have z3 := Try.sizeOf3
  rw [show (10000 : Nat) = 9999 + 1 from rfl, Op.equalIn]
  simp only [Sem.run_bind, run_underlying Try.underlying35, Result.andThen_ok]
  go_simp
theorem eql35 (b : Bool) (x y : Int) (w : World) : Sem.run Try.prog (binOp BinOp.eql 35 (.agg #[.bool b, .int .u32 x, .int .i64 y]) (.agg #[.bool b, .int .u32 x, .int .i64 y])) w = .ok (.bool true) w := by
  simp [binOp, Op.equal, show Op.maxDepth = 10000 from rfl, eq35]
end Au
end Go.Proofs.Ytcepfmeoeepjdaa
