import Derived.Test.YtclgbificccadaaSvK
import Derived.BigRegion
import Derived.Laws.Rows
import Derived.Laws.Tables
namespace Go.Proofs.Ytclgbificccadaa
namespace Sv
open Go.RowKit Go.Shelf
set_option linter.unusedVariables false
attribute [local go_sem] Oper.semAt_some
section
variable {α : Type}
/-- How many records of the parts below j have each digit. -/
def cn (p : α → Nat) (low fan : Nat) (L : List α) (j : Nat) : List Int := (List.range 256).map fun d => (L.countP (fun x => decide (p x < j) && (p x / low % fan == d)) : Int)
/-- Where the first m digits begin. -/
def om (g : α → Nat) (L : List α) (m : Nat) : List Int := (List.range 256).map fun d => if d < m then (opn g L d : Int) else 0
theorem cn_len (p : α → Nat) (low fan : Nat) (L : List α) (j : Nat) : (cn p low fan L j).length = 256 := by simp [cn]
theorem om_len (g : α → Nat) (L : List α) (m : Nat) : (om g L m).length = 256 := by simp [om]
theorem cn_get (p : α → Nat) (low fan : Nat) (L : List α) (j d : Nat) (h : d < 256) : (cn p low fan L j)[d]? = some (L.countP (fun x => decide (p x < j) && (p x / low % fan == d)) : Int) := by
  simp only [cn, List.getElem?_map, List.getElem?_range h, Option.map_some]
theorem om_get (g : α → Nat) (L : List α) (m d : Nat) (h : d < 256) : (om g L m)[d]? = some (if d < m then (opn g L d : Int) else 0) := by
  simp only [om, List.getElem?_map, List.getElem?_range h, Option.map_some]
theorem cn_zero (p : α → Nat) (low fan : Nat) (L : List α) : cn p low fan L 0 = List.replicate 256 0 := by
  apply List.ext_getElem?
  intro i
  by_cases h : i < 256
  · rw [cn_get p low fan L 0 i h, List.getElem?_replicate]
    simp [h]
  · rw [List.getElem?_eq_none (by rw [cn_len]; omega), List.getElem?_eq_none (by rw [List.length_replicate]; omega)]
theorem om_one (g : α → Nat) (L : List α) : om g L 1 = List.replicate 256 0 := by
  apply List.ext_getElem?
  intro i
  by_cases h : i < 256
  · rw [om_get g L 1 i h, List.getElem?_replicate]
    by_cases h0 : i < 1
    · obtain rfl : i = 0 := by omega
      simp [opn_zero]
    · simp [h, h0]
  · rw [List.getElem?_eq_none (by rw [om_len]; omega), List.getElem?_eq_none (by rw [List.length_replicate]; omega)]
theorem countP_split (a b c : α → Bool) (L : List α) (h : ∀ x ∈ L, c x = (a x || b x)) (h' : ∀ x ∈ L, a x = true → b x = false) : L.countP c = L.countP a + L.countP b := by
  induction L with
  | nil => rfl
  | cons x L ih =>
    rw [List.countP_cons, List.countP_cons, List.countP_cons, ih (fun y hy => h y (by simp [hy])) (fun y hy => h' y (by simp [hy])), h x (by simp)]
    have := h' x (by simp)
    cases ha : a x <;> cases hb : b x <;> simp_all <;> omega
theorem cn_next (p : α → Nat) (low fan : Nat) (L : List α) (j d : Nat) (hd : j / low % fan = d) (h : d < 256) :
    (cn p low fan L j).set d ((L.countP (fun x => decide (p x < j) && (p x / low % fan == d)) : Int) + (L.countP (fun x => p x == j) : Int)) = cn p low fan L (j + 1) := by
  apply List.ext_getElem?
  intro i
  by_cases hi : i < 256
  · rw [cn_get p low fan L (j + 1) i hi]
    by_cases e : i = d
    · subst e
      rw [List.getElem?_set_self (by rw [cn_len]; omega)]
      congr 1
      rw [countP_split (fun x => decide (p x < j) && (p x / low % fan == i)) (fun x => p x == j) (fun x => decide (p x < j + 1) && (p x / low % fan == i)) L]
      · push_cast; rfl
      · intro x _
        by_cases h1 : p x = j
        · simp [h1, hd]
        · have : decide (p x < j + 1) = decide (p x < j) := by rw [Bool.eq_iff_iff]; simp; omega
          simp [this, h1]
      · intro x _ hx
        simp at hx ⊢
        omega
    · rw [List.getElem?_set_ne (by omega), cn_get p low fan L j i hi]
      congr 2
      refine List.countP_congr fun x _ => ?_
      by_cases h1 : p x = j
      · simp [h1, hd]; omega
      · simp; omega
  · rw [List.getElem?_eq_none (by simp [cn_len]; omega), List.getElem?_eq_none (by rw [cn_len]; omega)]
theorem cn_last (p : α → Nat) (low fan : Nat) (L : List α) (k d : Nat) (h : d < 256) (hp : ∀ x ∈ L, p x < k) : (cn p low fan L k)[d]? = some (L.countP (fun x => p x / low % fan == d) : Int) := by
  rw [cn_get p low fan L k d h]
  congr 2
  exact List.countP_congr fun x hx => by simp [hp x hx]
theorem om_next (g : α → Nat) (L : List α) (m : Nat) (h : m + 1 < 256) : (om g L (m + 1)).set (m + 1) ((opn g L m : Int) + (L.countP (fun x => g x == m) : Int)) = om g L (m + 1 + 1) := by
  apply List.ext_getElem?
  intro i
  by_cases hi : i < 256
  · rw [om_get g L (m + 1 + 1) i hi]
    by_cases e : i = m + 1
    · subst e
      rw [List.getElem?_set_self (by rw [om_len]; omega), if_pos (by omega), opn_succ]
      push_cast; rfl
    · rw [List.getElem?_set_ne (by omega), om_get g L (m + 1) i hi]
      by_cases h0 : i < m + 1
      · rw [if_pos h0, if_pos (by omega)]
      · rw [if_neg h0, if_neg (by omega)]
  · rw [List.getElem?_eq_none (by simp [om_len]; omega), List.getElem?_eq_none (by rw [om_len]; omega)]
end
theorem infoA : (Try.prog.info? 76).map (fun i => (i.zero, i.size)) = some (some (.agg (iv (List.replicate 256 0)).toArray), 256) := by kernel_rfl
theorem zeroA (w : World) : (zeroValue 76).run Try.prog w = .ok (.agg (iv (List.replicate 256 0)).toArray) w := by
  have h := infoA
  revert h
  generalize iv (List.replicate 256 0) = Z
  intro h
  cases hh : Try.prog.info? 76 with
  | none => rw [hh] at h; cases h
  | some i => rw [hh] at h; simp at h; simp [zeroValue, typeInfo, hh, h.1]
theorem sizeA : (Try.prog.info? 76).map (·.size) = some 256 := by kernel_rfl
theorem iv_one (L : List Int) : (iv L).toArray.all (·.oneCell') = true := by
  rw [Array.all_eq_true]
  intro i hi
  simp [iv]
  rfl
theorem wpList_load256 {w : World} {ops : Array Oper} {rest : List Oper} {o : Oper} {a : Act} {Q : Exit → Act → World → Prop} (hgd : o.guard = none) (s : Operand) (ho : o.op = .load 76 s)
    (b : Nat) (c : Array Value) (hs : a.eval s = .pointer (some ⟨b, 0, none⟩)) (hsz : c.size = 256) (hh : w.heap[b]? = some (.cells c 76 (0, 0)))
    (h : wpList Try.prog ops Q rest (a.put o.dst (.agg c)) w) : wpList Try.prog ops Q (o :: rest) a w := by
  have hl : (Instr.loadAt 76 (.pointer (some ⟨b, 0, none⟩))).run Try.prog w = .ok (.agg c) w := by
    simp only [Instr.loadAt, Instr.sureAddr, Sem.run_bind, Sem.run_pure, Result.andThen]
    exact run_loadVar_row _ _ 76 76 c (0, 0) _ hh Try.underlying76 rfl (by rw [hsz]; exact sizeA)
  refine wpList_plain hgd fun K hK => ?_
  unfold Oper.wp execOp
  simp only [ho, hs, Sem.run_bind, Sem.run_pure, Result.andThen_ok, hl]
  exact hK _ _ h
theorem wpList_store256 {w : World} {ops : Array Oper} {rest : List Oper} {o : Oper} {a : Act} {Q : Exit → Act → World → Prop} (hgd : o.guard = none) (s x : Operand) (ho : o.op = .store 76 s x)
    (b : Nat) (c old : Array Value) (hs : a.eval s = .pointer (some ⟨b, 0, none⟩)) (hx : a.eval x = .agg c) (hsz : c.size = 256) (hoz : old.size = 256) (h1 : c.all (·.oneCell') = true) (hh : w.heap[b]? = some (.cells old 76 (0, 0)))
    (h : wpList Try.prog ops Q rest (a.put o.dst undef) (w.setRow b c)) : wpList Try.prog ops Q (o :: rest) a w := by
  have hl : (Instr.storeAt 76 (.pointer (some ⟨b, 0, none⟩)) (.agg c)).run Try.prog w = .ok () (w.setRow b c) := by
    simp only [Instr.storeAt, Instr.sureAddr, Sem.run_bind, Sem.run_pure, Result.andThen]
    exact run_storeVar_row _ _ 76 76 old c hh (by rw [hsz]; exact sizeA) (by omega) h1
  refine wpList_plain hgd fun K hK => ?_
  unfold Oper.wp execOp
  simp only [ho, hs, hx, Sem.run_bind, Sem.run_pure, Result.andThen_ok, hl]
  exact hK _ _ h
theorem below_setRow' {B : Nat} {w w' : World} (g : Nat) (cs : Array Value) (h : Below B w w') (hg : B ≤ g) : Below B w (w'.setRow g cs) :=
  ⟨h.os, h.tape, h.output, by simpa [World.setRow] using h.size, fun k hk => (setRow_other w' g k cs (by omega)).trans (h.block k hk)⟩
set_option maxRecDepth 20000 in
set_option maxHeartbeats 4000000 in
theorem openings_any (p : T3 → Nat) (L : List T3) (k low fan gs : Nat) (hk : 1 ≤ k) (hk2 : k ≤ 512) (hw1 : 1 ≤ low) (hw2 : low ≤ 131072) (hf1 : 2 ≤ fan) (hf2 : fan ≤ 256) (hl : L.length * 24 ≤ 140737488355328) (w : World) (hS : Rv w gs 3 (iv (mx p L k k))) (hp : ∀ x ∈ L, p x < k) :
    Calls Try.prog 35 #[.slice (some ⟨gs, 0, none⟩) (k + 1) (k + 1), .int .i64 (low : Int), .int .i64 (fan : Int)] w fun e w' => Below w.heap.size w w' ∧ e = .returned (.agg (iv (om (fun x => p x / low % fan) L fan)).toArray) := by
  have hz := zeroA
  generalize hZ : iv (List.replicate 256 0) = Z at hz
  have hgs := hS.lt
  have HP : Hid (∀ x ∈ L, p x < k) := hp
  obtain ⟨V, hV⟩ : ∃ V, V = ((w.alloc (.cells Z.toArray 76)).alloc (.cells Z.toArray 76)).alloc (.cells Z.toArray 76) := ⟨_, rfl⟩
  have hB0 : Below w.heap.size w V := by rw [hV]; exact (((Below.refl _ w).alloc (Nat.le_refl _) _).alloc (by simp) _).alloc (by simp; omega) _
  have r0 : Rv V w.heap.size 76 Z := by rw [hV]; exact ((Rv.new w 76 Z).alloc _).alloc _
  have r1 : Rv V (w.heap.size + 1) 76 (iv (cn p low fan L 0)) := by
    rw [hV, cn_zero, hZ]
    have := (Rv.new (w.alloc (.cells Z.toArray 76)) 76 Z).alloc (.cells Z.toArray 76)
    rwa [World.size_alloc] at this
  have r2 : Rv V (w.heap.size + 1 + 1) 76 Z := by
    rw [hV]
    have := Rv.new ((w.alloc (.cells Z.toArray 76)).alloc (.cells Z.toArray 76)) 76 Z
    rwa [World.size_alloc, World.size_alloc] at this
  have HVV : Hid (V = ((w.alloc (.cells Z.toArray 76)).alloc (.cells Z.toArray 76)).alloc (.cells Z.toArray 76)) := hV
  have HS : Hid (∀ W, Below w.heap.size w W → Rv W gs 3 (iv (mx p L k k))) := fun W hW => hS.on hW hgs
  clear hV hS hp
  go_enter Try.func35, Try.ntmps35
  go_wp2
  rw [← HVV.out]
  clear hz
  go_loopw [14] (fun i wr => ∃ j : Nat, j ≤ k ∧ i = .int .i64 (j : Int) ∧ Below w.heap.size w wr ∧ Rv wr w.heap.size 76 Z ∧ Rv wr (w.heap.size + 1) 76 (iv (cn p low fan L j)) ∧ Rv wr (w.heap.size + 1 + 1) 76 Z) (fun i _ => k - (intOf i).toNat)
  case atStart => exact ⟨0, Nat.zero_le _, rfl, hB0, r0, r1, r2⟩
  case round =>
    obtain ⟨j, hj, rfl, hB, q0, q1, q2⟩ := hrel
    by_cases hjk : j < k
    · obtain ⟨d, hd⟩ : ∃ d, j / low % fan = d := ⟨_, rfl⟩
      have hdf : d < fan := by rw [← hd]; exact Nat.mod_lt _ (by omega)
      have e0 := cn_get p low fan L j d (by omega)
      have n0 := cn_next p low fan L j d hd (by omega)
      have l0 := cnt_le (fun x => decide (p x < j) && (p x / low % fan == d)) L
      obtain ⟨A, hA⟩ : ∃ A, A = L.countP (fun x => decide (p x < j) && (p x / low % fan == d)) := ⟨_, rfl⟩
      rw [← hA] at e0 n0 l0
      have s0 : (mx p L k k)[j]? = some (opn p L j : Int) := by rw [mx_get p L k k j (by omega), if_pos (by omega)]
      have s1 : (mx p L k k)[j + 1]? = some (opn p L (j + 1) : Int) := by rw [mx_get p L k k (j + 1) (by omega), if_pos (by omega)]
      have o1 := opn_succ p L j
      have l1 := opn_le p L (j + 1)
      obtain ⟨M, hM⟩ : ∃ M, M = opn p L j := ⟨_, rfl⟩
      obtain ⟨n, hn⟩ : ∃ n, n = L.countP (fun x => p x == j) := ⟨_, rfl⟩
      rw [← hn] at o1 n0
      rw [o1] at s1 l1
      rw [← hM] at s0 s1 l1
      have hRs := HS.out wr hB
      have c0 := q1.cell (iv_get e0)
      have f0 := q1.frozen d
      have c1 := hRs.cell (iv_get s0)
      have c2 := hRs.cell (iv_get s1)
      have HT : Hid (Rv (wr.setCell ⟨w.heap.size + 1, d, none⟩ (.int .i64 ((A : Int) + (n : Int)))) (w.heap.size + 1) 76 (iv (cn p low fan L (j + 1)))) := by
        have h := q1.set d (.int .i64 ((A : Int) + (n : Int)))
        rw [iv_set, n0] at h
        exact h
      have HU : Hid (Rv (wr.setCell ⟨w.heap.size + 1, d, none⟩ (.int .i64 ((A : Int) + (n : Int)))) w.heap.size 76 Z ∧ Rv (wr.setCell ⟨w.heap.size + 1, d, none⟩ (.int .i64 ((A : Int) + (n : Int)))) (w.heap.size + 1 + 1) 76 Z) := ⟨q0.other (by omega) _ _, q2.other (by omega) _ _⟩
      have HBn : Hid (Below w.heap.size w (wr.setCell ⟨w.heap.size + 1, d, none⟩ (.int .i64 ((A : Int) + (n : Int))))) := hB.setCell (p := ⟨w.heap.size + 1, d, none⟩) (by simp) _
      obtain ⟨q, hq⟩ : ∃ q, q = j / low := ⟨_, rfl⟩
      rw [← hq] at hd
      have hql : q ≤ j := by rw [hq]; exact Nat.div_le_self _ _
      have t1 : (j : Int).tdiv (low : Int) = (q : Int) := by rw [hq]; exact (Int.ofNat_tdiv j low).symm
      have t2 : (q : Int).tmod (fan : Int) = (d : Int) := by rw [← hd]; exact (Int.ofNat_tmod q fan).symm
      have w1 : IntKind.i64.wrap (q : Int) = (q : Int) := wrap_small _ (by omega) (by omega)
      have w2 : IntKind.i64.wrap (d : Int) = (d : Int) := wrap_small _ (by omega) (by omega)
      have w3 : IntKind.i64.wrap ((j : Int) + 1) = (j : Int) + 1 := wrap_small _ (by omega) (by omega)
      have w4 : IntKind.i64.wrap (((M + n : Nat) : Int) - (M : Int)) = (n : Int) := by
        rw [show ((M + n : Nat) : Int) - (M : Int) = (n : Int) by push_cast; omega]
        simp only [IntKind.wrap, IntKind.signed, IntKind.bits]; simp; omega
      have w5 : IntKind.i64.wrap ((A : Int) + (n : Int)) = (A : Int) + (n : Int) := by simp only [IntKind.wrap, IntKind.signed, IntKind.bits]; simp; omega
      have z1 : ((low : Int) == 0) = false := by simp; omega
      have z2 : ((fan : Int) == 0) = false := by simp; omega
      have b1 : (j : Int) + 1 < (k : Int) + 1 := by omega
      have b2 : (j : Int) < (k : Int) + 1 := by omega
      have b3 : (d : Int) < 256 := by omega
      have hjk' : (j : Int) < (k : Int) := by omega
      clear e0 n0 s0 s1 o1 hM hn hA hRs hq hd q0 q1 q2 r0 r1 r2 hB0 hB
      generalize M + n = M1 at *
      go_wp2
      apply wp_cut (fun w' => w' = (wr.setCell ⟨w.heap.size + 1, d, none⟩ (.int .i64 ((A : Int) + (n : Int)))).drew)
      case h =>
        go_region
        all_goals exact ⟨rfl, rfl⟩
      case hq =>
        rintro w9 rfl
        go_wp2
        exact ⟨⟨j + 1, by omega, by go_num, HBn.out.drew, HU.out.1, HT.out, HU.out.2⟩, by simp [intOf]; omega⟩
    · obtain rfl : j = k := by omega
      have HC : Hid (∀ d, d < 256 → (cn p low fan L j)[d]? = some (L.countP (fun x => p x / low % fan == d) : Int)) := fun d hd => cn_last p low fan L j d hd HP.out
      have hZl : Z.toArray.size = 256 := by rw [← hZ]; simp [iv_len]
      have hZO : Z = iv (om (fun x => p x / low % fan) L (0 + 1)) := by rw [Nat.zero_add, om_one]; exact hZ.symm
      have HQ : Hid (Below w.heap.size w wr ∧ Rv wr w.heap.size 76 Z ∧ Rv wr (w.heap.size + 1) 76 (iv (cn p low fan L j)) ∧ Rv wr (w.heap.size + 1 + 1) 76 (iv (om (fun x => p x / low % fan) L (0 + 1)))) := ⟨hB, q0, q1, hZO ▸ q2⟩
      clear hB q0 q1 q2 r0 r1 r2 hB0 hZ hZO HS HP HVV
      go_wp2
      clear hw1 hw2
      obtain ⟨W0, HW0⟩ : ∃ W0, Hid (W0 = wr) := ⟨_, rfl⟩
      go_loopw [10] (fun i wr => ∃ m : Nat, m + 1 ≤ fan ∧ i = .int .i64 ((m : Int) + 1) ∧ Below w.heap.size w wr ∧ Rv wr w.heap.size 76 Z ∧ Rv wr (w.heap.size + 1) 76 (iv (cn p low fan L j)) ∧ Rv wr (w.heap.size + 1 + 1) 76 (iv (om (fun x => p x / low % fan) L (m + 1)))) (fun i _ => fan - (intOf i).toNat)
      case atStart => exact ⟨0, by omega, rfl, HQ.out⟩
      case round =>
        clear HQ
        obtain ⟨m, hm, rfl, hB, q0, q1, q2⟩ := hrel
        by_cases hmf : m + 1 < fan
        · have e0 := HC.out m (by omega)
          have e1 := om_get (fun x => p x / low % fan) L (m + 1) m (by omega)
          rw [if_pos (by omega)] at e1
          have n0 := om_next (fun x => p x / low % fan) L m (by omega)
          have l0 := cnt_le (fun x => p x / low % fan == m) L
          have l1 := opn_le (fun x => p x / low % fan) L m
          obtain ⟨A, hA⟩ : ∃ A, A = L.countP (fun x => p x / low % fan == m) := ⟨_, rfl⟩
          obtain ⟨O, hO⟩ : ∃ O, O = opn (fun x => p x / low % fan) L m := ⟨_, rfl⟩
          rw [← hA] at e0 n0 l0
          rw [← hO] at e1 n0 l1
          have c0 := q1.cell (iv_get e0)
          have c1 := q2.cell (iv_get e1)
          have f1 := q2.frozen (m + 1)
          have c2 := q2.cell (iv_get (om_get (fun x => p x / low % fan) L (m + 1) (m + 1) (by omega)))
          rw [if_neg (by omega)] at c2
          have HT : Hid (Rv (wr.setCell ⟨w.heap.size + 1 + 1, m + 1, none⟩ (.int .i64 ((O : Int) + (A : Int)))) (w.heap.size + 1 + 1) 76 (iv (om (fun x => p x / low % fan) L (m + 1 + 1)))) := by
            have h := q2.set (m + 1) (.int .i64 ((O : Int) + (A : Int)))
            rw [iv_set, n0] at h
            exact h
          have HU : Hid (Rv (wr.setCell ⟨w.heap.size + 1 + 1, m + 1, none⟩ (.int .i64 ((O : Int) + (A : Int)))) w.heap.size 76 Z ∧ Rv (wr.setCell ⟨w.heap.size + 1 + 1, m + 1, none⟩ (.int .i64 ((O : Int) + (A : Int)))) (w.heap.size + 1) 76 (iv (cn p low fan L j))) := ⟨q0.other (by omega) _ _, q1.other (by omega) _ _⟩
          have HBn : Hid (Below w.heap.size w (wr.setCell ⟨w.heap.size + 1 + 1, m + 1, none⟩ (.int .i64 ((O : Int) + (A : Int))))) := hB.setCell (p := ⟨w.heap.size + 1 + 1, m + 1, none⟩) (by simp; omega) _
          have b1 : (m : Int) + 1 < (fan : Int) := by omega
          have b2 : (m : Int) + 1 < 256 := by omega
          have b3 : (m : Int) < 256 := by omega
          clear e0 e1 n0 hA hO q0 q1 q2 hB
          go_wp2
          apply wp_cut (fun w' => w' = (wr.setCell ⟨w.heap.size + 1 + 1, m + 1, none⟩ (.int .i64 ((O : Int) + (A : Int)))).drew)
          case h =>
            go_region
            all_goals exact ⟨rfl, rfl⟩
          case hq =>
            rintro w9 rfl
            go_wp2
            exact ⟨⟨m + 1, by omega, by go_num, HBn.out.drew, HU.out.1, HU.out.2, HT.out⟩, by simp [intOf]; omega⟩
        · obtain rfl : fan = m + 1 := by omega
          have hmf' : ¬ (m : Int) + 1 < ((m + 1 : Nat) : Int) := by omega
          have hO2 : (iv (om (fun x => p x / low % (m + 1)) L (m + 1))).toArray.size = 256 := by simp [iv_len, om_len]
          have hO3 := iv_one (om (fun x => p x / low % (m + 1)) L (m + 1))
          have hbel := below_setRow' w.heap.size (iv (om (fun x => p x / low % (m + 1)) L (m + 1))).toArray hB (Nat.le_refl _)
          have hld : (loadVar 76 ⟨w.heap.size, 0, none⟩).run Try.prog (wr.setRow w.heap.size (iv (om (fun x => p x / low % (m + 1)) L (m + 1))).toArray) = .ok (.agg (iv (om (fun x => p x / low % (m + 1)) L (m + 1))).toArray) (wr.setRow w.heap.size (iv (om (fun x => p x / low % (m + 1)) L (m + 1))).toArray) :=
            run_loadVar_row _ _ 76 76 _ (0, 0) _ (setRow_heap wr w.heap.size _ _ 76 (0, 0) q0) Try.underlying76 rfl (by rw [hO2]; exact sizeA)
          unfold Rv at q0 q2
          generalize hD : (iv (om (fun x => p x / low % (m + 1)) L (m + 1))).toArray = D at *
          have HE : Hid ((iv (om (fun x => p x / low % (m + 1)) L (m + 1))).toArray = D) := hD
          clear hD
          generalize Z.toArray = ZZ at *
          go_wp2_with (first
            | (refine wpList_load256 rfl _ rfl (w.heap.size + 1 + 1) D rfl hO2 q2 ?_)
            | (refine wpList_store256 rfl _ _ rfl w.heap.size D ZZ rfl rfl hO2 hZl hO3 q0 ?_))
          refine bodyPost_ret (v := .agg D) ?_ rfl ⟨hbel, congrArg (fun x => Ending.returned (.agg x)) HE.out.symm⟩
          simp [results, Try.results35, asAddr, hld]
end Sv
end Go.Proofs.Ytclgbificccadaa
