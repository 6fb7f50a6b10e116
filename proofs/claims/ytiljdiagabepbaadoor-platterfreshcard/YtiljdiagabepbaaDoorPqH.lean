import Derived.Test.YtiljdiagabepbaaDoorPqG
namespace Go.Proofs.YtiljdiagabepbaaDoor
namespace Pq
open Go.RowKit Pb
set_option linter.unusedVariables false
/-- The names that came in. -/
structure NR (W : World) (a : Option Addr) (len : Nat) (S : Nat → ByteArray) : Prop where
  small : len ≤ 4611686018427387904
  at' : ∀ i, i < len → ∃ p, a = some p ∧ W.cell? (p.add i) = some (.string (S i))
  sz : ∀ i, i < len → (S i).size ≤ 9223372036854775807
/-- Behind k names. -/
structure M1 (W w : World) (g gp gn gd : Nat) (k : Nat) (ch : Value) (c : Nat) (D : DataW Unit) : Prop where
  fd : FD W w g gp gn gd (1 + k) ch c D
  hc : c ≤ k + 1
  ha : Maps.has D (ky a0) = true
theorem fd_new {W v : World} {g gp gn gd : Nat} (h1 : Below W.heap.size W v) (h2 : W.heap.size ≤ g) (h3 : W.heap.size ≤ gn) (hg : v.heap[g]? = some (.cells (dk g 1000 0 gp gn gd (.slice none 0 0) 0) 68 (0, 0))) (hp : v.heap[gp]? = some (.map #[] 0)) (hn : v.heap[gn]? = some (.map #[] 0)) (pn : gp ≠ gn) : FD W v g gp gn gd 0 (.slice none 0 0) 0 (.map []) :=
  ⟨h1, h2, h3, hg, hp, ⟨#[], 0, hn, ⟨by simp, Go.MapKept.stamped_empty 0, by simp⟩, Nat.le_refl _, rfl⟩, ⟨[], ⟨rfl, .inl ⟨rfl, rfl⟩⟩⟩, fun s hs => by simp [Maps.has] at hs, rfl, pn⟩
theorem create_first {W v : World} {g gp gn gd : Nat} (h : FD W v g gp gn gd 0 (.slice none 0 0) 0 (.map [])) :
    Calls Tryd.prog 8 #[.pointer (some ⟨g, 0, none⟩), .string ⟨#[97, 48]⟩] v fun e w' => e = .returned (.int .i64 0) ∧ ∃ ch c D, M1 W w' g gp gn gd 0 ch c D := by
  refine (create_gen W v g gp gn gd 0 0 (.slice none 0 0) (.map []) a0 h (by decide) (by omega) (by omega) (by omega)).mono ?_
  rintro e w' ⟨E, rfl, ch, c, D, fd, hc⟩
  rcases hc with ⟨_, _, hx⟩ | ⟨rfl, rfl, b, rfl⟩
  · have := hx rfl
    simp [Maps.has] at this
  · exact ⟨rfl, ch, _, _, ⟨by simpa using fd, by omega, Maps.has_put_same ⟨[], rfl⟩ (k := ky a0) (show WideAt.IsKeyLit (.string a0.data.toList) from trivial) _⟩⟩
theorem M1.create {W w : World} {g gp gn gd k : Nat} {ch : Value} {c : Nat} {D : DataW Unit} (h : M1 W w g gp gn gd k ch c D) (s : ByteArray) (hs : s.size ≤ 9223372036854775807) (hk : k ≤ 100) :
    Calls Tryd.prog 8 #[.pointer (some ⟨g, 0, none⟩), .string s] w fun e w' => ∃ E, e = .returned (.int .i64 E) ∧ ∃ ch' c' D', M1 W w' g gp gn gd (k + 1) ch' c' D' := by
  have hc := h.hc
  refine (create_gen W w g gp gn gd c (1 + k) ch D s h.fd hs (by omega) (by omega) (by omega)).mono ?_
  rintro e w' ⟨E, rfl, ch', c', D', fd, hcr⟩
  have fd' : FD W w' g gp gn gd (1 + ((k + 1 : Nat) : Int)) ch' c' D' := by
    have e1 : (1 + (k : Int) + 1) = 1 + ((k + 1 : Nat) : Int) := by omega
    rw [e1] at fd
    exact fd
  refine ⟨E, rfl, ch', c', D', fd', ?_, ?_⟩
  · rcases hcr with ⟨_, e, _⟩ | ⟨_, e, _⟩ <;> omega
  · rcases hcr with ⟨e, _, _⟩ | ⟨_, _, b, e⟩
    · rw [e]; exact h.ha
    · rw [e]
      by_cases e2 : ky a0 = ky s
      · rw [e2]; exact Maps.has_put_same h.fd.hn.isMap (show WideAt.IsKeyLit (.string s.data.toList) from trivial) _
      · rw [Maps.has_put_other e2]; exact h.ha
theorem vss_get0 : ∀ (xs : List (List UInt8)) (i : Nat) (h : i < xs.length), (vss xs)[i * 8]? = some (.string (nm xs[i]))
  | x :: r, 0, _ => rfl
  | x :: r, i + 1, h => by
    have ih := vss_get0 r i (by simpa using h)
    show (vs x ++ vss r)[(i + 1) * 8]? = _
    rw [List.getElem?_append_right (by simp [vs]; omega)]
    have : (i + 1) * 8 - (vs x).length = i * 8 := by simp [vs]; omega
    rw [this, ih]; rfl
theorem vss_get1 : ∀ (xs : List (List UInt8)) (i : Nat) (h : i < xs.length), (vss xs)[i * 8 + 1]? = some (.int .i64 0)
  | x :: r, 0, _ => rfl
  | x :: r, i + 1, h => by
    have ih := vss_get1 r i (by simpa using h)
    show (vs x ++ vss r)[(i + 1) * 8 + 1]? = _
    rw [List.getElem?_append_right (by simp [vs]; omega)]
    have : (i + 1) * 8 + 1 - (vs x).length = i * 8 + 1 := by simp [vs]; omega
    rw [this, ih]
/-- Behind List and Stats. -/
structure M2 (W w : World) (g gp gn gd : Nat) (ops : Int) (ch : Value) (c : Nat) (D : DataW Unit) (m b1 cap1 b2 : Nat) : Prop where
  fd : FD W w g gp gn gd ops ch c D
  r1 : w.ownsRow W.heap.size 9 1 (.slice (some ⟨b1, 0, none⟩) m cap1) m ((SS D).map Go.Proofs.encStr)
  r2 : w.ownsRow W.heap.size 34 8 (.slice (some ⟨b2, 0, none⟩) m m) m (vss (SS D))
/-- Behind List. -/
structure Ml (W w0 w : World) (g gp gn gd : Nat) (ops : Int) (ch : Value) (c : Nat) (D : DataW Unit) (m b1 cap1 : Nat) : Prop where
  fd : FD W w g gp gn gd ops ch c D
  r1 : w.ownsRow W.heap.size 9 1 (.slice (some ⟨b1, 0, none⟩) m cap1) m ((SS D).map Go.Proofs.encStr)
  nw : w0.heap.size ≤ b1
  fr : Frm w0 w (fun k => k = g)
theorem FD.list {W w : World} {g gp gn gd c m : Nat} {ops : Int} {ch : Value} {D : DataW Unit} (h : FD W w g gp gn gd ops ch c D) (hc : c ≤ 1000) (o0 : 0 ≤ ops) (o1 : ops < 4611686018427387904) (hm : (SS D).length = m) (hm1 : 1 ≤ m) :
    Calls Tryd.prog 9 #[.pointer (some ⟨g, 0, none⟩)] w fun e w' => ∃ b1 cap1, e = .returned (.tuple #[.slice (some ⟨b1, 0, none⟩) m cap1, .int .i64 0]) ∧ Ml W w w' g gp gn gd (ops + 1) ch c D m b1 cap1 := by
  refine (list_gen W w g gp gn gd c ops ch D h hc o0 o1).mono ?_
  rintro e w' ⟨p, l, c2, rfl, fd, row, f⟩
  rw [hm] at row
  rcases row.2 with ⟨e0, h0⟩ | ⟨nb, ncap, ncu, e0, hnb, _⟩
  · omega
  injection e0 with e1 e2 e3
  subst e1 e2 e3
  exact ⟨nb, c2, rfl, ⟨fd, row_le row h.bel.size, hnb, f⟩⟩
theorem FD.stats {W w : World} {g gp gn gd c m : Nat} {ops : Int} {ch : Value} {D : DataW Unit} (h : FD W w g gp gn gd ops ch c D) (hc : c ≤ 1000) (hm : (SS D).length = m) (hm1 : 1 ≤ m) :
    Calls Tryd.prog 10 #[.pointer (some ⟨g, 0, none⟩)] w fun e w' => ∃ b2, e = .returned (.slice (some ⟨b2, 0, none⟩) m m) ∧ FD W w' g gp gn gd ops ch c D ∧ w'.ownsRow W.heap.size 34 8 (.slice (some ⟨b2, 0, none⟩) m m) m (vss (SS D)) ∧ w.heap.size ≤ b2 ∧ Frm w w' (fun _ => False) := by
  refine (stats_gen W w g gp gn gd c m ops ch D h hc hm hm1).mono ?_
  rintro e w' ⟨b, rfl, hb, row, bel⟩
  have f : Frm w w' (fun _ => False) := Frm.of_below bel
  exact ⟨b, rfl, h.frm f, row_le row h.bel.size, hb, f⟩
theorem M1.len {W w : World} {g gp gn gd k : Nat} {ch : Value} {c : Nat} {D : DataW Unit} (h : M1 W w g gp gn gd k ch c D) : 1 ≤ (SS D).length ∧ (SS D).length ≤ c := by
  refine ⟨?_, by rw [SS_len h.fd.hn]; exact h.fd.hn.size_le⟩
  have : a0.data.toList ∈ SS D := (SS_mem h.fd.hn _).2 h.ha
  exact List.length_pos_of_mem this
end Pq
end Go.Proofs.YtiljdiagabepbaaDoor
