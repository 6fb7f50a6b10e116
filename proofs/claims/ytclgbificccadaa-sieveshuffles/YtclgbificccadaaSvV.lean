import Derived.Test.YtclgbificccadaaSvU
namespace Go.Proofs.Ytclgbificccadaa
namespace Sv
open Go.RowKit Go.Shelf
set_option linter.unusedVariables false
attribute [local go_sem] Oper.semAt_some
/-- A row of numbers, in a block or none. -/
def IR (w : World) (v : Value) (A : List Int) : Prop :=
  (v = .slice none 0 0 ∧ A = []) ∨ ∃ g c, v = .slice (some ⟨g, 0, none⟩) A.length c ∧ g < w.heap.size ∧ ∀ i x, A[i]? = some x → w.cell? ⟨g, i, none⟩ = some (.int .i64 x)
theorem IR.on {w w' : World} {v : Value} {A : List Int} (h : IR w v A) (hb : Below w.heap.size w w') : IR w' v A := by
  rcases h with h | ⟨g, c, h1, h2, h3⟩
  · exact .inl h
  · refine .inr ⟨g, c, h1, Nat.lt_of_lt_of_le h2 hb.size, fun i x hx => ?_⟩
    have h4 := h3 i x hx
    exact (hb.cell (p := ⟨g, i, none⟩) h2).trans h4
theorem IR.of {w : World} {B : Nat} {v : Value} {A : List Int} {n : Nat} (h : w.ownsRow B 3 1 v n (iv A)) (hn : A.length = n) : IR w v A := by
  subst hn
  rcases h.2 with ⟨rfl, h0⟩ | ⟨g, cap, cur, rfl, _⟩
  · exact .inl ⟨rfl, List.length_eq_zero_iff.1 h0⟩
  · refine .inr ⟨g, cap, rfl, (h.lt g rfl).2, fun i x hx => ?_⟩
    have := World.ownsRow.cells h (g := g) rfl i _ (iv_get hx)
    rwa [add0] at this
/-- The parts by place. -/
def ga (A : List Int) (i : Nat) : Nat := ((A[i]?).getD 0).toNat
def ord (A : List Int) (k : Nat) : List Nat := stg (ga A) k (List.range A.length)
def nz (L : List Nat) : List Int := L.map fun (i : Nat) => (i : Int)
def sts (A : List Int) (k : Nat) : List Int := (List.range (k + 1)).map fun d => (opn (ga A) (List.range A.length) d : Int)
theorem nz_app (L M : List Nat) : nz (L ++ M) = nz L ++ nz M := by simp [nz]
theorem nz_len (L : List Nat) : (nz L).length = L.length := by simp [nz]
theorem iv_app (L M : List Int) : iv (L ++ M) = iv L ++ iv M := by simp [iv]
theorem sts_succ (A : List Int) (k : Nat) : sts A (k + 1) = sts A k ++ [(opn (ga A) (List.range A.length) (k + 1) : Int)] := by simp [sts, List.range_succ (n := k + 1)]
theorem sts_len (A : List Int) (k : Nat) : (sts A k).length = k + 1 := by simp [sts]
theorem ord_zero (A : List Int) : ord A 0 = [] := rfl
/-- The numbers of one part among the first i. -/
def fl (A : List Int) (d i : Nat) : List Nat := (List.range i).filter fun j => ga A j == d
theorem fl_zero (A : List Int) (d : Nat) : fl A d 0 = [] := rfl
theorem fl_in (A : List Int) (d i : Nat) (h : ga A i = d) : fl A d (i + 1) = fl A d i ++ [i] := by simp [fl, List.range_succ, h]
theorem fl_out (A : List Int) (d i : Nat) (h : ga A i ≠ d) : fl A d (i + 1) = fl A d i := by simp [fl, List.range_succ, h]
theorem fl_len (A : List Int) (d i : Nat) : (fl A d i).length ≤ i := by
  have := List.length_filter_le (fun j => ga A j == d) (List.range i)
  simpa [fl] using this
theorem ord_succ (A : List Int) (k : Nat) : ord A (k + 1) = ord A k ++ fl A k A.length := stg_succ _ _ _
theorem ord_len (A : List Int) (k : Nat) : (ord A k).length = opn (ga A) (List.range A.length) k := stg_prefix _ _ _
theorem ord_le (A : List Int) (k : Nat) : (ord A k).length ≤ A.length := by
  rw [ord_len]; have := opn_le (ga A) (List.range A.length) k; simpa using this
theorem infoI3 : ∃ i z, Try.prog.info? 3 = some i ∧ i.zero = some z ∧ i.size = 1 ∧ i.bytes = 8 ∧ z.cells.size = 1 := by
  have h := infoI
  cases e : Try.prog.info? 3 with
  | none => rw [e] at h; cases h
  | some i =>
    rw [e] at h
    simp only [Option.map_some, Option.some.injEq, Prod.mk.injEq] at h
    exact ⟨i, _, rfl, h.1, h.2.1, h.2.2, rfl⟩
/-- append of one number. -/
theorem wpList_append1 {w : World} {ops : Array Oper} {rest : List Oper} {o : Oper} {a : Act} {Q : Exit → Act → World → Prop} (hgd : o.guard = none) (s x : Operand)
    (ho : o.op = .call { callee := .builtin .append, args := #[s, x], argTypes := #[45, 45] }) (base : Nat) (v : Value) (B c n : Nat) (xs : List Int) (z : Int) (hs : a.eval s = v) (hown : w.ownsRow base 3 1 v n (iv xs))
    (hx : a.eval x = .slice (some ⟨B, 0, none⟩) 1 c) (hc : w.cell? ⟨B, 0, none⟩ = some (.int .i64 z)) (h63 : (n + 1) * 8 ≤ 140737488355328) (hbase : base ≤ w.heap.size)
    (h : ∀ v' w', w'.ownsRow base 3 1 v' (n + 1) (iv (xs ++ [z])) → w.grownBy w' v.ownBlock → (v'.ownBlock = v.ownBlock ∨ v'.ownBlock = some w.heap.size) → wpList Try.prog ops Q rest (a.put o.dst v') w') : wpList Try.prog ops Q (o :: rest) a w := by
  obtain ⟨i0, z0, hi, hz0, hz1, hz2, hz3⟩ := infoI3
  exact wpList_append_own_at w hgd s x 45 ho base 3 i0 z0 1 8 Try.underlying45 hi hz0 hz1 hz2 hz3 (by decide) v n (iv xs) hs hown ⟨B, 0, none⟩ 1 c [.int .i64 z] hx rfl
    (fun j u hj => by
      match j, hj with
      | 0, hj => simp at hj; subst hj; rw [add0]; exact hc) (fun u hu => by simp at hu; subst hu; rfl) (by unfold maxLen; omega) h63 hbase (fun v' w' h2 h3 _ h5 => h v' w' (by rw [iv_app]; exact h2) h3 h5)
/-- Two rows in blocks apart. -/
def Dj (v u : Value) : Prop := ∀ g, v.ownBlock = some g → u.ownBlock ≠ some g
theorem Dj.kept {v u : Value} (h : Dj v u) : v.ownBlock = none ∨ v.ownBlock ≠ u.ownBlock := by
  cases e : v.ownBlock with
  | none => exact .inl rfl
  | some g => exact .inr (fun h' => h g e h'.symm)
theorem Dj.symm {v u : Value} (h : Dj v u) : Dj u v := fun g hg hv => h g hv hg
theorem Dj.new {v u v' : Value} {N : Nat} (h : Dj v u) (hv : ∀ g, v.ownBlock = some g → g < N) (hat : v'.ownBlock = u.ownBlock ∨ v'.ownBlock = some N) : Dj v v' := fun g hg hv' => by
  rcases hat with e | e
  · exact h g hg (e ▸ hv')
  · have := hv g hg
    rw [e] at hv'
    cases hv'
    omega
end Sv
end Go.Proofs.Ytclgbificccadaa
