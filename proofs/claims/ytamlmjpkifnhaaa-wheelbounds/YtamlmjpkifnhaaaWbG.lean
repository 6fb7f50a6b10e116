import Derived.Test.YtamlmjpkifnhaaaWbF
namespace Go.Proofs.Ytamlmjpkifnhaaa
namespace Wb
open Go.RowKit
set_option linter.unusedVariables false
set_option maxRecDepth 8000
abbrev SS (x z : Nat) (s : ByteArray) (n k p : Int) (b : Bool) (e u : Int) (o : ByteArray) (a f r c y : Int) (W : World) : Prop := W.cell? ⟨x, 0, none⟩ = some (.string s) ∧ W.cell? ⟨x, 1, none⟩ = some (.int .u32 n) ∧ W.cell? ⟨x, 2, none⟩ = some (.int .i64 k) ∧ W.cell? ⟨x, 3, none⟩ = some (.int .i64 p) ∧ W.cell? ⟨x, 4, none⟩ = some (.bool b) ∧ W.cell? ⟨x, 5, none⟩ = some (.int .i64 e) ∧ W.cell? ⟨x, 6, none⟩ = some (.int .u32 u) ∧ W.cell? ⟨z, 0, none⟩ = some (.string o) ∧ W.cell? ⟨z, 1, none⟩ = some (.int .i64 a) ∧ W.cell? ⟨z, 2, none⟩ = some (.int .i64 f) ∧ W.cell? ⟨z, 3, none⟩ = some (.int .i64 r) ∧ W.cell? ⟨z, 4, none⟩ = some (.int .i64 c) ∧ W.cell? ⟨z, 5, none⟩ = some (.int .i64 y)
theorem SS.below {x z B : Nat} {s : ByteArray} {n k p : Int} {b : Bool} {e u : Int} {o : ByteArray} {a f r c y : Int} {W W' : World} (h : SS x z s n k p b e u o a f r c y W) (hb : Below B W W') (hx : x < B) (hz : z < B) : SS x z s n k p b e u o a f r c y W' := by
  obtain ⟨h0, h1, h2, h3, h4, h5, h6, k0, k1, k2, k3, k4, k5⟩ := h
  exact ⟨(hb.cell (p := ⟨x, 0, none⟩) hx).trans h0, (hb.cell (p := ⟨x, 1, none⟩) hx).trans h1, (hb.cell (p := ⟨x, 2, none⟩) hx).trans h2, (hb.cell (p := ⟨x, 3, none⟩) hx).trans h3, (hb.cell (p := ⟨x, 4, none⟩) hx).trans h4, (hb.cell (p := ⟨x, 5, none⟩) hx).trans h5, (hb.cell (p := ⟨x, 6, none⟩) hx).trans h6, (hb.cell (p := ⟨z, 0, none⟩) hz).trans k0, (hb.cell (p := ⟨z, 1, none⟩) hz).trans k1, (hb.cell (p := ⟨z, 2, none⟩) hz).trans k2, (hb.cell (p := ⟨z, 3, none⟩) hz).trans k3, (hb.cell (p := ⟨z, 4, none⟩) hz).trans k4, (hb.cell (p := ⟨z, 5, none⟩) hz).trans k5⟩
theorem SS.new (w : World) (s : ByteArray) (n k p : Int) (b : Bool) (e u : Int) (o : ByteArray) (a f r c y : Int) : SS w.heap.size (w.heap.size + 1) s n k p b e u o a f r c y ((w.alloc (gc s n k p b e u)).alloc (oc o a f r c y)) := by
  refine ⟨?_, ?_, ?_, ?_, ?_, ?_, ?_, ?_, ?_, ?_, ?_, ?_, ?_⟩ <;> simp
set_option maxHeartbeats 8000000 in
theorem law_any (s : ByteArray) (hs : s.size ≤ 9223372036854775807) (n k p : Int) (b : Bool) (e u : Int) (hn0 : 0 ≤ n) (hn1 : n ≤ 4294967295) (o : ByteArray) (ho : o.size ≤ 9223372036854775807) (a f r c y q : Int) (w : World) :
    Calls Try.prog 3 #[gv s n k p b e u, ov o a f r c y, .int .i64 q] w fun e' w' => e' = .returned (.bool true) ∧ Below w.heap.size w w' := by
  have H1 := need_any s hs n k p b e u hn0 hn1 o ho a f r c y q
  have H2 := rneed_any s hs n k p b e u hn0 hn1 o ho a f r c y q
  have H3 : Hid (∀ w, Calls Try.prog 6 #[gv s n k p b e u, ov o a f r c y, .int .i64 q] w fun e' w' => e' = .returned (.int .i64 (rm s n k p b e o a f r c y q)) ∧ Below w.heap.size w w') := room_any s hs n k p b e u hn0 hn1 o ho a f r c y q
  have H4 : Hid (∀ w, Calls Try.prog 7 #[gv s n k p b e u, ov o a f r c y, .int .i64 q] w fun e' w' => e' = .returned (.int .i64 (rm s n k p b e o a f r c y q)) ∧ Below w.heap.size w w') := rroom_any s hs n k p b e u hn0 hn1 o ho a f r c y q
  generalize n1 s n k p e o a f r c y q = N1 at *
  generalize n2 s n k p e o a f r c y q = N2 at *
  generalize rm s n k p b e o a f r c y q = R at *
  clear hs ho hn0 hn1
  have hS0 := SS.new w s n k p b e u o a f r c y
  have hB0 : Below w.heap.size w ((w.alloc (gc s n k p b e u)).alloc (oc o a f r c y)) := bA (bA (bR w) _) _
  have hsz : ((w.alloc (gc s n k p b e u)).alloc (oc o a f r c y)).heap.size = w.heap.size + 2 := by simp
  go_enter Try.func3, Try.ntmps3
  go_wp2_with (fail)
  refine (H1 _).mono ?_
  rintro e1 w1 ⟨rfl, o1⟩
  have hS1 := SS.below hS0 o1 (by rw [hsz]; omega) (by rw [hsz]; omega)
  have hB1 := hB0.trans (o1.mono hB0.size)
  have z1 : w.heap.size + 2 ≤ w1.heap.size := by have := o1.size; rw [hsz] at this; exact this
  clear o1 hS0 hB0 hsz H1
  obtain ⟨x, hx⟩ : ∃ x, x = w.heap.size := ⟨_, rfl⟩
  rw [← hx] at hS1 z1 ⊢
  have HX : Hid (x = w.heap.size) := hx
  clear hx
  obtain ⟨h0, h1, h2, h3, h4, h5, h6, k0, k1, k2, k3, k4, k5⟩ := id hS1
  have hSH : Hid (SS x (x + 1) s n k p b e u o a f r c y w1) := hS1
  clear hS1
  go_wp2_with (fail)
  refine (H2 _).mono ?_
  rintro e2 w2 ⟨rfl, o2⟩
  clear h0 h1 h2 h3 h4 h5 h6 k0 k1 k2 k3 k4 k5 H2
  have hS : Hid (SS x (x + 1) s n k p b e u o a f r c y w2) := SS.below hSH.out o2 (by omega) (by omega)
  have hB2 := hB1.trans (o2.mono hB1.size)
  have z2 : x + 2 ≤ w2.heap.size := Nat.le_trans z1 o2.size
  clear o2 hSH hB1 z1
  go_wp2
  replace hS : Hid (SS x (x + 1) s n k p b e u o a f r c y w2.drew) := hS.out
  have hd : Below w2.heap.size w2 w2.drew := (Below.refl _ _).drew
  go_region_held3 (SS x (x + 1) s n k p b e u o a f r c y) ((with_reducible exact hS.out))
    ((first
      | (go_at_call 6; refine (H3.out _).mono ?_; rintro e5 w5 ⟨rfl, o5⟩; (replace hS : Hid (SS x (x + 1) s n k p b e u o a f r c y w5) := SS.below hS.out o5 (Nat.lt_of_lt_of_le (Nat.lt_of_lt_of_le (Nat.lt_add_of_pos_right (by decide)) z2) hd.size) (Nat.lt_of_lt_of_le (Nat.lt_of_lt_of_le (Nat.lt_succ_self _) z2) hd.size)); (replace hd := hd.trans (o5.mono hd.size)))
      | (go_at_call 7; refine (H4.out _).mono ?_; rintro e6 w6 ⟨rfl, o6⟩; (replace hS : Hid (SS x (x + 1) s n k p b e u o a f r c y w6) := SS.below hS.out o6 (Nat.lt_of_lt_of_le (Nat.lt_of_lt_of_le (Nat.lt_add_of_pos_right (by decide)) z2) hd.size) (Nat.lt_of_lt_of_le (Nat.lt_of_lt_of_le (Nat.lt_succ_self _) z2) hd.size)); (replace hd := hd.trans (o6.mono hd.size))))
    )
  go_wp2
  go_ret
  exact ⟨by simp, hB2.trans (hd.mono hB2.size)⟩
end Wb
end Go.Proofs.Ytamlmjpkifnhaaa
