import Derived.Test.YtclgbificccadaaSvHa
namespace Go.Proofs.Ytclgbificccadaa
namespace Sv
open Go.RowKit Go.Shelf
set_option linter.unusedVariables false
attribute [local go_sem] Oper.semAt_some
theorem boxed_on {w w' : World} {b B : Nat} {t : TypeId} {v : Value} (h : Boxed w b t v) (hb : Below B w w') (hl : b < B) : Boxed w' b t v := (hb.block b hl).trans h
/-- The law's own variables. -/
def ST (s : Nat) (a : Option Addr) (c : Nat) (L : List T3) (E stop : Int) (W : World) : Prop :=
  Boxed W s 22 (.slice a L.length c) ∧ Boxed W (s + 1) 3 (.int .i64 stop) ∧ Boxed W (s + 2) 4 (.bool false) ∧ Boxed W (s + 3) 23 (.int .i64 E)
theorem ST.on {s : Nat} {a : Option Addr} {c : Nat} {L : List T3} {E stop : Int} {W W' : World} {B : Nat} (h : ST s a c L E stop W) (hb : Below B W W') (hs : s + 3 < B) : ST s a c L E stop W' :=
  ⟨boxed_on h.1 hb (by omega), boxed_on h.2.1 hb (by omega), boxed_on h.2.2.1 hb (by omega), boxed_on h.2.2.2 hb hs⟩
theorem ST.of {s : Nat} {a : Option Addr} {c : Nat} {L : List T3} {E stop : Int} {W W' : World} (h : ST s a c L E stop W) (hb : ∀ k, k < s + 4 → W'.heap[k]? = W.heap[k]?) : ST s a c L E stop W' :=
  ⟨(hb _ (by omega)).trans h.1, (hb _ (by omega)).trans h.2.1, (hb _ (by omega)).trans h.2.2.1, (hb _ (by omega)).trans h.2.2.2⟩
theorem boxed_of {w : World} {b b' : Nat} {t : TypeId} {v : Value} (h : Boxed w b t v) (e : b = b') : Boxed w b' t v := e ▸ h
theorem ST.new (w : World) (a : Option Addr) (c : Nat) (L : List T3) (E stop : Int) : ST w.heap.size a c L E stop ((((w.alloc (.cells #[.slice a L.length c] 22)).alloc (.cells #[.int .i64 stop] 3)).alloc (.cells #[.bool false] 4)).alloc (.cells #[.int .i64 E] 23)) := by
  have h0 := Boxed.new w 22 (.slice a L.length c)
  have h1 := Boxed.new (w.alloc (.cells #[.slice a L.length c] 22)) 3 (.int .i64 stop)
  have h2 := Boxed.new ((w.alloc (.cells #[.slice a L.length c] 22)).alloc (.cells #[.int .i64 stop] 3)) 4 (.bool false)
  have h3 := Boxed.new (((w.alloc (.cells #[.slice a L.length c] 22)).alloc (.cells #[.int .i64 stop] 3)).alloc (.cells #[.bool false] 4)) 23 (.int .i64 E)
  exact ⟨((h0.alloc _).alloc _).alloc _, boxed_of ((h1.alloc _).alloc _) (by simp), boxed_of (h2.alloc _) (by simp), boxed_of h3 (by simp)⟩
theorem b5 (w : World) (o1 o2 o3 o4 o5 : Obj) : Below w.heap.size w (((((w.alloc o1).alloc o2).alloc o3).alloc o4).alloc o5) :=
  (((((Below.refl _ w).alloc (Nat.le_refl _) _).alloc (by simp) _).alloc (by simp; omega) _).alloc (by simp; omega) _).alloc (by simp; omega) _
/-- What stands ahead of a round. -/
def RF (s Bt Bf : Nat) (W1 : World) (m : Nat) (a : Act) (W : World) : Prop :=
  ∃ (j : Nat) (T : Array Value) (Ds : List Nat) (Br : Nat), m + j = 4 ∧ j ≤ 3 ∧ a = { tmps := T, defers := Ds.map (fun D => { target := .collected D, args := #[] }) } ∧ Ds.length = j ∧ T.size = 102 ∧
    (T[3]? = some (.pointer (some ⟨s, 0, none⟩)) ∧ T[5]? = some (.pointer (some ⟨s + 1, 0, none⟩)) ∧ T[6]? = some (.pointer (some ⟨s + 1 + 1, 0, none⟩)) ∧ T[7]? = some (.pointer (some ⟨s + 1 + 1 + 1, 0, none⟩)) ∧
      T[9]? = some (.func (.func 30) #[] #[.pointer (some ⟨Bt, 0, none⟩), .pointer (some ⟨Bf, 0, none⟩)]) ∧ T[11]? = some (.pointer (some ⟨Br, 0, none⟩))) ∧
    Boxed W Br 3 (.int .i64 (j : Int)) ∧ W1.heap.size ≤ Br ∧ Below W1.heap.size W1 W ∧ (∀ D ∈ Ds, W.heap[D]? = some (.deferred (some [])) ∧ W1.heap.size ≤ D) ∧ Ds.Nodup
set_option maxHeartbeats 800000 in
theorem eqE (a0 a1 a2 b0 b1 b2 : Int) (w : World) : (Op.equalIn 10000 29 (eV a0 a1 a2) (eV b0 b1 b2)).run Try.prog w = .ok (a0 == b0 && a1 == b1 && a2 == b2) w := by
  have uS := Try.underlying29
  have uU := Try.underlying27
  have aU := Try.isAgg27
  have zU := Try.sizeOf27
  rw [show (10000 : Nat) = 9999 + 1 from rfl, Op.equalIn]
  simp only [Sem.run_bind, run_underlying uS, Result.andThen_ok]
  go_simp
  by_cases h0 : a0 = b0
  · by_cases h1 : a1 = b1
    · by_cases h2 : a2 = b2 <;> simp [h0, h1, h2]
    · simp [h0, h1]
  · simp [h0]
theorem neqE (x y : T3) (h : ¬ x = y) (w : World) : Sem.run Try.prog (binOp BinOp.neq 29 (eV x.1 x.2.1 x.2.2) (eV y.1 y.2.1 y.2.2)) w = .ok (.bool true) w := by
  have he : (x.1 == y.1 && x.2.1 == y.2.1 && x.2.2 == y.2.2) = false := by
    rw [Bool.eq_false_iff]
    intro hh
    simp at hh
    exact h (Prod.ext hh.1.1 (Prod.ext hh.1.2 hh.2))
  have hh := eqE x.1 x.2.1 x.2.2 y.1 y.2.1 y.2.2 w
  rw [he] at hh
  simp [binOp, Op.equal, show Op.maxDepth = 10000 from rfl, hh]
theorem cells3 {v : World} {ad : Addr} {j : Nat} {p q r : Value} (h : v.cell? (ad.add (j * 3)) = some p ∧ v.cell? (ad.add (j * 3 + 1)) = some q ∧ v.cell? (ad.add (j * 3 + 2)) = some r) : v.cell? (ad.add (j * 3)) = some p ∧ v.cell? ⟨(ad.add (j * 3)).block, (ad.add (j * 3)).off + 1, none⟩ = some q ∧ v.cell? ⟨(ad.add (j * 3)).block, (ad.add (j * 3)).off + 2, none⟩ = some r := by
  rw [← Addr.add_add, ← Addr.add_add] at h
  exact h
theorem thenIn_cut {F : Fence} {n : Nat} {P : Program} {c : Code} {K : Act → World → Prop} {Q : Exit → Act → World → Prop} {a : Act} {w : World} (T : Act → World → Prop) (h : c.wpIn F n P (Exit.then T Q) a w) (hk : ∀ a w, T a w → K a w) : c.wpIn F n P (Exit.then K Q) a w :=
  wpIn_mono h (fun e a w q => by cases e <;> first | exact hk _ _ q | exact q)
theorem snoc_prefix {α : Type} {L pre : List α} {y : α} (hp : pre <+: L) (h : L[pre.length]? = some y) : pre ++ [y] <+: L := by
  obtain ⟨t, rfl⟩ := hp
  rw [List.getElem?_append_right (Nat.le_refl _)] at h
  cases t with
  | nil => simp at h
  | cons z t => simp at h; subst h; exact ⟨t, by simp⟩
theorem snoc_of_prefix {α : Type} {L pre : List α} {y e : α} (he : L[pre.length]? = some e) (h : pre ++ [y] <+: L) : y = e := by
  obtain ⟨t, rfl⟩ := h
  simpa using he
theorem OwnFrom.or {β : Type} {B : Nat} {I J : β → World → Prop} (h : OwnFrom B I) (k : OwnFrom B J) : OwnFrom B (fun s W => I s W ∨ J s W) := fun s X Y row hs hg hr => hs.elim (fun e => .inl (h s X Y row e hg hr)) (fun e => .inr (k s X Y row e hg hr))
theorem keepsFrom_below {B : Nat} {W W' : World} (h : Below W.heap.size W W') : KeepsFrom B W W' := ⟨h.size, fun k o _ h0 _ => (h.block k (Array.getElem?_eq_some_iff.1 h0).1).trans h0⟩
end Sv
end Go.Proofs.Ytclgbificccadaa
