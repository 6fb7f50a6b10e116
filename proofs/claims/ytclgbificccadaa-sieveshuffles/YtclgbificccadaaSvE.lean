import Derived.Test.YtclgbificccadaaSvD
import Derived.RangeFuncBox
import Derived.Laws.AppendOwnNone
import Derived.Laws.AppendOwn
import Derived.Maps.AppendAt
import Derived.BigRegion
import Derived.Deep.RegionLaw
namespace Go.Proofs.Ytclgbificccadaa
namespace Sv
open Go.RowKit
set_option linter.unusedVariables false
theorem add_block (x : Addr) (i : Nat) : (x.add i).block = x.block := by unfold Addr.add; split <;> rfl
theorem add0 (g i : Nat) : (⟨g, 0, none⟩ : Addr).add i = ⟨g, i, none⟩ := by
  unfold Addr.add
  split
  · simp_all
  · simp
/-- A record: three numbers; as cells. -/
abbrev T3 := Int × Int × Int
def e3 (q : IntKind) (x : T3) : List Value := [.int .u32 x.1, .int q x.2.1, .int q x.2.2]
def cl (q : IntKind) (L : List T3) : List Value := L.flatMap (e3 q)
theorem cl_nil (q : IntKind) : cl q [] = [] := rfl
theorem cl_cons (q : IntKind) (x : T3) (L : List T3) : cl q (x :: L) = e3 q x ++ cl q L := rfl
theorem cl_app (q : IntKind) (L M : List T3) : cl q (L ++ M) = cl q L ++ cl q M := by simp [cl]
theorem cl_len (q : IntKind) (L : List T3) : (cl q L).length = L.length * 3 := by
  induction L with
  | nil => rfl
  | cons e L ih => rw [cl_cons, List.length_append, ih]; simp [e3]; omega
theorem cl_get (q : IntKind) (L : List T3) (i : Nat) (e : T3) (h : L[i]? = some e) : (cl q L)[i * 3]? = some (.int .u32 e.1) ∧ (cl q L)[i * 3 + 1]? = some (.int q e.2.1) ∧ (cl q L)[i * 3 + 2]? = some (.int q e.2.2) := by
  induction L generalizing i with
  | nil => simp at h
  | cons f L ih =>
    rw [cl_cons]
    cases i with
    | zero => simp at h; subst h; simp [e3]
    | succ i =>
      simp only [List.getElem?_cons_succ] at h
      obtain ⟨a, b, c⟩ := ih i h
      rw [List.getElem?_append_right (by simp [e3]; omega), List.getElem?_append_right (by simp [e3]; omega), List.getElem?_append_right (by simp [e3]; omega)]
      rw [show (i + 1) * 3 - (e3 q f).length = i * 3 by simp [e3]; omega, show (i + 1) * 3 + 1 - (e3 q f).length = i * 3 + 1 by simp [e3]; omega, show (i + 1) * 3 + 2 - (e3 q f).length = i * 3 + 2 by simp [e3]; omega]
      exact ⟨a, b, c⟩
theorem cl_one (q : IntKind) (L : List T3) (u : Value) (h : u ∈ cl q L) : u.oneCell' = true := by
  simp only [cl, List.mem_flatMap, e3] at h
  obtain ⟨x, _, h⟩ := h
  simp at h
  rcases h with rfl | rfl | rfl <;> rfl
/-- Any cell of a list of records is a record's. -/
theorem cl_at (q : IntKind) (L : List T3) (j : Nat) (u : Value) (h : (cl q L)[j]? = some u) : ∃ i e, L[i]? = some e ∧ ((j = i * 3 ∧ u = .int .u32 e.1) ∨ (j = i * 3 + 1 ∧ u = .int q e.2.1) ∨ (j = i * 3 + 2 ∧ u = .int q e.2.2)) := by
  have hj : j < L.length * 3 := by rw [← cl_len q]; exact (List.getElem?_eq_some_iff.1 h).1
  have hi : j / 3 < L.length := by omega
  obtain ⟨e, he⟩ : ∃ e, L[j / 3]? = some e := ⟨L[j / 3], List.getElem?_eq_getElem hi⟩
  obtain ⟨a, b, c⟩ := cl_get q L _ e he
  refine ⟨j / 3, e, he, ?_⟩
  rcases show j = j / 3 * 3 ∨ j = j / 3 * 3 + 1 ∨ j = j / 3 * 3 + 2 by omega with k | k | k
  · rw [← k, h] at a; exact .inl ⟨k, by simpa using a⟩
  · rw [← k, h] at b; exact .inr (.inl ⟨k, by simpa using b⟩)
  · rw [← k, h] at c; exact .inr (.inr ⟨k, by simpa using c⟩)
/-- Records that lie from x on, as they came in. -/
def At3 (q : IntKind) (w : World) (x : Addr) (L : List T3) : Prop := x.block < w.heap.size ∧ ∀ i e, L[i]? = some e → w.cell? (x.add (i * 3)) = some (.int .u32 e.1) ∧ w.cell? (x.add (i * 3 + 1)) = some (.int q e.2.1) ∧ w.cell? (x.add (i * 3 + 2)) = some (.int q e.2.2)
def Row3 (q : IntKind) (w : World) (a : Option Addr) (L : List T3) : Prop := 0 < L.length → ∃ x, a = some x ∧ At3 q w x L
theorem At3.on {q : IntKind} {w w' : World} {x : Addr} {L : List T3} {B : Nat} (h : At3 q w x L) (hb : Below B w w') (hB : w.heap.size ≤ B) : At3 q w' x L :=
  have hx := Nat.lt_of_lt_of_le h.1 hB
  ⟨Nat.lt_of_lt_of_le h.1 hb.size, fun i e he => ⟨(hb.cell (p := x.add (i * 3)) (by rw [add_block]; exact hx)).trans (h.2 i e he).1, (hb.cell (p := x.add (i * 3 + 1)) (by rw [add_block]; exact hx)).trans (h.2 i e he).2.1, (hb.cell (p := x.add (i * 3 + 2)) (by rw [add_block]; exact hx)).trans (h.2 i e he).2.2⟩⟩
theorem Row3.on {q : IntKind} {w w' : World} {a : Option Addr} {L : List T3} {B : Nat} (h : Row3 q w a L) (hb : Below B w w') (hB : w.heap.size ≤ B) : Row3 q w' a L := fun h0 => by
  obtain ⟨x, rfl, hx⟩ := h h0
  exact ⟨x, rfl, hx.on hb hB⟩
/-- A list's type and its elements', of three cells. -/
def Tp (t e : TypeId) (B : Nat) : Prop := Try.prog.underlying t = some (.slice e) ∧ ∃ i z, Try.prog.info? e = some i ∧ i.zero = some z ∧ i.size = 3 ∧ i.bytes = B ∧ z.cells.size = 3
theorem infoE : (Try.prog.info? 29).map (fun i => (i.zero, i.size, i.bytes)) = some (some (eV 0 0 0), 3, 12) := by kernel_rfl
theorem infoU : (Try.prog.info? 44).map (fun i => (i.zero, i.size, i.bytes)) = some (some (uV 0 0 0), 3, 24) := by kernel_rfl
theorem tpE : Tp 22 29 12 := by
  refine ⟨Try.underlying22, ?_⟩
  have h := infoE
  cases hh : Try.prog.info? 29 with
  | none => rw [hh] at h; cases h
  | some i => rw [hh] at h; simp at h; exact ⟨i, _, rfl, h.1, h.2.1, h.2.2, rfl⟩
theorem tpU : Tp 37 44 24 := by
  refine ⟨Try.underlying37, ?_⟩
  have h := infoU
  cases hh : Try.prog.info? 44 with
  | none => rw [hh] at h; cases h
  | some i => rw [hh] at h; simp at h; exact ⟨i, _, rfl, h.1, h.2.1, h.2.2, rfl⟩
/-- What an append takes: nothing, or cells that lie somewhere. -/
def Src (w : World) (sv : Value) (m : Nat) (news : List Value) : Prop :=
  (sv = .slice none 0 0 ∧ m = 0 ∧ news = []) ∨ ∃ ad c, sv = .slice (some ad) m c ∧ news.length = m * 3 ∧ (∀ j u, news[j]? = some u → w.cell? (ad.add j) = some u) ∧ ∀ u ∈ news, u.oneCell' = true
theorem grown_refl (w : World) (r : Option Nat) : w.grownBy w r := ⟨rfl, rfl, rfl, Nat.le_refl _, fun _ _ _ => rfl⟩
theorem wpList_append3 {t e : TypeId} {B : Nat} (hT : Tp t e B) {w : World} {ops : Array Oper} {rest : List Oper} {o : Oper} {a : Act} {Q : Exit → Act → World → Prop} (hgd : o.guard = none) (s x : Operand)
    (ho : o.op = .call { callee := .builtin .append, args := #[s, x], argTypes := #[t, t] }) (base : Nat) (v sv : Value) (n m : Nat) (xs news : List Value) (hs : a.eval s = v) (hown : w.ownsRow base e 3 v n xs)
    (hx : a.eval x = sv) (hsrc : Src w sv m news) (h63 : (n + m) * B ≤ 140737488355328) (h12 : 12 ≤ B) (hbase : base ≤ w.heap.size)
    (h : ∀ v' w', w'.ownsRow base e 3 v' (n + m) (xs ++ news) → w.grownBy w' v.ownBlock → (v'.ownBlock = v.ownBlock ∨ v'.ownBlock = some w.heap.size) → wpList Try.prog ops Q rest (a.put o.dst v') w') : wpList Try.prog ops Q (o :: rest) a w := by
  obtain ⟨hu, i0, z, hi, hz0, hz1, hz2, hz3⟩ := hT
  have hm : n + m ≤ 140737488355328 := Nat.le_trans (by have := Nat.mul_le_mul_left (n + m) (show 1 ≤ B by omega); omega) h63
  rcases hsrc with ⟨rfl, rfl, rfl⟩ | ⟨ad, c, rfl, hl, hc, h1⟩
  · refine wpList_append_own_none hgd s x t ho base e i0 3 hu hi v n xs hs hown hx ?_
    exact h v w (by simpa using hown) (grown_refl _ _) (Or.inl rfl)
  · exact wpList_append_own_at w hgd s x t ho base e i0 z 3 B hu hi hz0 hz1 hz2 hz3 (by decide) v n xs hs hown ad m c news hx (by omega) hc h1 (by unfold maxLen; omega) h63 hbase (fun v' w' h2 h3 _ h5 => h v' w' h2 h3 h5)
theorem Row3.src {q : IntKind} {w : World} {a : Option Addr} {L : List T3} (h : Row3 q w a L) (c : Nat) (hn : a = none → c = 0) : Src w (.slice a L.length c) L.length (cl q L) := by
  cases a with
  | none =>
    obtain rfl := hn rfl
    have h0 : L.length = 0 := by
      rcases Nat.eq_zero_or_pos L.length with e | e
      · exact e
      · obtain ⟨x, hx, _⟩ := h e; cases hx
    obtain rfl := List.length_eq_zero_iff.1 h0
    exact .inl ⟨rfl, rfl, rfl⟩
  | some x =>
    refine .inr ⟨x, c, rfl, cl_len q L, fun j u hj => ?_, cl_one q L⟩
    obtain ⟨i, e, he, hh⟩ := cl_at q L j u hj
    obtain ⟨x', hx', hA⟩ := h (by have := (List.getElem?_eq_some_iff.1 he).1; omega)
    cases hx'
    obtain ⟨a, b, c⟩ := hA.2 i e he
    rcases hh with ⟨rfl, rfl⟩ | ⟨rfl, rfl⟩ | ⟨rfl, rfl⟩ <;> assumption
end Sv
end Go.Proofs.Ytclgbificccadaa
