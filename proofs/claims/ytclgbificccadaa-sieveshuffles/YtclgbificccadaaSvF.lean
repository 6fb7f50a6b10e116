import Derived.Test.YtclgbificccadaaSvE
namespace Go.Proofs.Ytclgbificccadaa
namespace Sv
open Go.RowKit
set_option linter.unusedVariables false
/-- A row of our own of records. -/
abbrev LR (q : IntKind) (t : TypeId) (w : World) (B : Nat) (v : Value) (L : List T3) : Prop := w.ownsRow B t 3 v L.length (cl q L)
theorem own_empty (w : World) (t : TypeId) (B : Nat) (h : B ≤ w.heap.size) : (w.alloc (.cells #[] t)).ownsRow B t 3 (.slice (some ⟨w.heap.size, 0, none⟩) 0 0) 0 [] := by
  refine ⟨rfl, .inr ⟨w.heap.size, 0, #[], rfl, h, World.alloc_heap_new w _, Nat.le_refl _, by decide, rfl, rfl⟩⟩
theorem own_some {w : World} {B : Nat} {t : TypeId} {v : Value} {n : Nat} {xs : List Value} (h : w.ownsRow B t 3 v n xs) (hb : v.ownBlock ≠ none) : ∃ g c, v = .slice (some ⟨g, 0, none⟩) n c := by
  rcases h.2 with ⟨rfl, _⟩ | ⟨g, cap, cur, rfl, _⟩
  · exact absurd rfl hb
  · exact ⟨g, cap, rfl⟩
theorem LR.cells {q : IntKind} {t : TypeId} {w : World} {B g c m : Nat} {L : List T3} (h : LR q t w B (.slice (some ⟨g, 0, none⟩) m c) L) : At3 q w ⟨g, 0, none⟩ L := by
  have hc := World.ownsRow.cells h (g := g) rfl
  refine ⟨(h.lt g rfl).2, fun i e he => ?_⟩
  obtain ⟨a, b, d⟩ := cl_get q L i e he
  exact ⟨hc _ _ a, hc _ _ b, hc _ _ d⟩
set_option maxHeartbeats 1000000 in
theorem clone_any (x : Addr) (c : Nat) (L : List T3) (w : World) (hl : L.length * 12 ≤ 140737488351232) (hr : Row3 .u32 w (some x) L) :
    Calls Try.prog 29 #[.slice (some x) L.length c] w fun e w' => ∃ g c', e = .returned (.slice (some ⟨g, 0, none⟩) L.length c') ∧ LR .u32 29 w' w.heap.size (.slice (some ⟨g, 0, none⟩) L.length c') L ∧ Below w.heap.size w w' := by
  have hq : ∀ (n : Nat) (W : World), Sem.run Try.prog (binOp BinOp.eql 22 (.slice (some x) n c) (.slice none 0 0)) W = .ok (.bool false) W := fun _ _ => rfl
  have HS : Hid (Src (w.alloc (.cells #[] 29)) (.slice (some x) L.length c) L.length (cl .u32 L)) := (hr.on (b1 w 29 #[]) (Nat.le_refl _)).src c (fun h => by cases h)
  clear hr
  go_enter Try.func29, Try.ntmps29
  go_wp2_with (at_builtin; refine wpList_append3 tpE rfl _ _ rfl w.heap.size _ _ 0 L.length [] (cl .u32 L) rfl (own_empty w 29 _ (Nat.le_refl _)) rfl HS.out (by omega) (by decide) (by simp) ?_)
  intro v1 w1 hown1 hgr1 hat1
  have hB1 : Below w.heap.size w w1 := (b1 w 29 #[]).grown hgr1 (by simp) (fun j hj => by simp [Value.ownBlock] at hj; omega)
  replace hown1 : w1.ownsRow w.heap.size 29 3 v1 L.length (cl .u32 L) := by simpa using hown1
  obtain ⟨g, c', rfl⟩ := own_some hown1 (by rcases hat1 with h | h <;> rw [h] <;> simp [Value.ownBlock])
  clear hgr1 hat1 HS hq
  go_wp2
  go_ret
  exact ⟨g, c', rfl, hown1, hB1⟩
set_option maxHeartbeats 1000000 in
theorem feed_any (x : Addr) (c : Nat) (L : List T3) (f : Int) (w : World) (hl : L.length * 12 ≤ 140737488351232) (hr : Row3 .u32 w (some x) L) :
    Calls Try.prog 8 #[.slice (some x) L.length c, .int .i64 f] w fun e w' => ∃ g c' Bt, e = .returned (.func (.func 30) #[] #[.pointer (some ⟨Bt, 0, none⟩), .pointer (some ⟨w.heap.size, 0, none⟩)]) ∧ LR .u32 29 w' w.heap.size (.slice (some ⟨g, 0, none⟩) L.length c') L ∧
      Boxed w' Bt 22 (.slice (some ⟨g, 0, none⟩) L.length c') ∧ Boxed w' w.heap.size 23 (.int .i64 f) ∧ w.heap.size < Bt ∧ Below w.heap.size w w' := by
  have HR : Hid (Row3 .u32 (w.alloc (.cells #[.int .i64 f] 23)) (some x) L) := hr.on (b1 w 23 _) (Nat.le_refl _)
  clear hr
  go_enter Try.func8, Try.ntmps8
  go_wp2_with (fail)
  refine (clone_any x c L _ hl HR.out).mono ?_
  rintro e9 w9 ⟨g, c', rfl, hL, hB⟩
  have hs := hB.size
  simp only [World.size_alloc] at hs hL hB
  have bF := Boxed.new w 23 (.int .i64 f)
  have bF' : Boxed w9 w.heap.size 23 (.int .i64 f) := (hB.block w.heap.size (by omega)).trans bF
  have hBw : Below w.heap.size w w9 := (b1 w 23 _).trans (hB.mono (by simp))
  clear HR
  go_wp2
  go_ret
  refine ⟨g, c', w9.heap.size, rfl, ?_, Boxed.new w9 _ _, bF'.alloc _, by omega, hBw.alloc (by omega) _⟩
  have h9 := hL.alloc (.cells #[.slice (some ⟨g, 0, none⟩) L.length c'] 22)
  refine ⟨h9.1, ?_⟩
  rcases h9.2 with h | ⟨g', cap, cur, h1, h2, h3⟩
  · exact .inl h
  · exact .inr ⟨g', cap, cur, h1, by omega, h3⟩
end Sv
end Go.Proofs.Ytclgbificccadaa
