import Derived.Test.YtcepfmeoeepjdabAyF
import Derived.Test.YtcepfmeoeepjdabAuQ
namespace Go.Proofs.Ytcepfmeoeepjdab
namespace Au
open Go.RowKit
set_option linter.unusedVariables false
set_option maxRecDepth 8000
def GH (w : World) (b n : Nat) (H : Nat → Bool) : Prop := ∃ C : Array Value, w.heap[b]? = some (.cells C 4 (0, 0)) ∧ ∀ v, v < n → C[v]? = some (.bool (H v))
theorem GH.lt {w : World} {b n : Nat} {H : Nat → Bool} (h : GH w b n H) : b < w.heap.size := by
  obtain ⟨C, h, _⟩ := h
  exact (Array.getElem?_eq_some_iff.1 h).1
theorem GH.of {w w' : World} {b n : Nat} {H : Nat → Bool} (h : GH w b n H) (e : w'.heap[b]? = w.heap[b]?) : GH w' b n H := by
  obtain ⟨C, h, h2⟩ := h
  exact ⟨C, e.trans h, h2⟩
theorem GH.on {w w' : World} {b n : Nat} {H : Nat → Bool} (h : GH w b n H) (hb : Below w.heap.size w w') : GH w' b n H := h.of (hb.block b h.lt)
theorem GH.cell {w : World} {b n : Nat} {H : Nat → Bool} (h : GH w b n H) (v : Nat) (hv : v < n) : w.cell? ⟨b, v, none⟩ = some (.bool (H v)) := by
  obtain ⟨C, h, h2⟩ := h
  exact (cell_of_row w b _ _ 4 (0, 0) h).trans (h2 v hv)
theorem GH.fz {w : World} {b n : Nat} {H : Nat → Bool} (h : GH w b n H) (j : Nat) : w.frozen? ⟨b, j, none⟩ = false := by
  obtain ⟨C, h, h2⟩ := h
  exact frozen_of_row w b _ _ 4 h
theorem GH.set {w : World} {b n : Nat} {H : Nat → Bool} (h : GH w b n H) (j : Nat) (x : Bool) : GH (w.setCell ⟨b, j, none⟩ (.bool x)) b n (fun v => if v = j then x else H v) ∧ ∃ C, w.setCell ⟨b, j, none⟩ (.bool x) = w.setRow b C := by
  obtain ⟨C, h, h2⟩ := h
  rw [setCell_eq_setRow w b j C 4 (0, 0) _ h]
  refine ⟨⟨_, setRow_heap w b _ _ 4 (0, 0) h, fun v hv => ?_⟩, _, rfl⟩
  show _ = some (Value.bool (if v = j then x else H v))
  rw [Array.getElem?_setIfInBounds]
  have hv2 := h2 v hv
  have := (Array.getElem?_eq_some_iff.1 hv2).1
  by_cases e : j = v
  · subst e; rw [if_pos rfl, if_pos this, if_pos rfl]
  · rw [if_neg e, if_neg (fun k => e k.symm)]; exact hv2
theorem infoB : (Try.prog.info? 4).map (fun i => (i.zero, i.size, i.bytes)) = some (some (.bool false), 1, 1) := by kernel_rfl
theorem make_bool (w : World) (n : Nat) (hn : n ≤ 1000000) : (Instr.makeSlice 81 (.int .u32 (n : Int)) (.int .u32 (n : Int))).run Try.prog w = .ok (.slice (some ⟨w.heap.size, 0, none⟩) n n) (w.alloc (.cells (madeCells #[.bool false] n) 4)) := by
  have h := infoB
  cases hh : Try.prog.info? 4 with
  | none => rw [hh] at h; cases h
  | some i =>
    rw [hh] at h
    simp at h
    have hr := run_make (P := Try.prog) w 81 4 i (.bool false) Try.underlying81 hh h.1 .u32 .u32 n n (by omega) (by omega) (by rw [h.2.2]; omega) (by omega)
    rw [h.2.1] at hr
    simp only [Int.toNat_natCast, Nat.mul_one] at hr
    rw [hr]
    rfl
theorem GH.new (w : World) (n : Nat) : GH (w.alloc (.cells (madeCells #[.bool false] n) 4)) w.heap.size n (fun _ => false) := by
  refine ⟨_, at0 _ _, fun j hj => ?_⟩
  simp [madeCells, hj, Nat.mod_one]
/-- What the document's Spread holds besides. -/
def Zs (W w : World) (g fb n : Nat) (G : Nat → Int) : Prop := W.heap[w.heap.size]? = some (.cells z3 35 (0, 0)) ∧ Boxed W fb 79 (.slice (some ⟨g, 0, none⟩) n n) ∧ GI W g n G ∧ Below w.heap.size w W
theorem Zs.on {W W' w : World} {g fb n : Nat} {G : Nat → Int} (h : Zs W w g fb n G) (hb : Below W.heap.size W W') : Zs W' w g fb n G := by
  obtain ⟨a, b, c, d⟩ := h
  exact ⟨(hb.block _ (lt_of_some a)).trans a, (hb.block _ b.lt).trans b, c.of (hb.block _ c.lt), d.trans (hb.mono d.size)⟩
theorem Zs.ch {W W' w : World} {g fb n : Nat} {G G' : Nat → Int} (h : Zs W w g fb n G) (hc : Ch (fun k => k = g) W W') (hG : GI W' g n G') (h1 : w.heap.size < g) (h2 : fb ≠ g) : Zs W' w g fb n G' := by
  obtain ⟨a, b, c, d⟩ := h
  exact ⟨(hc.block _ (lt_of_some a) (by show w.heap.size ≠ g; omega)).trans a, (hc.block _ b.lt h2).trans b, hG, d.trans (hc.below (fun k hk e => by omega) d.size)⟩
set_option maxHeartbeats 4000000 in
theorem rfrom_any (n : Nat) (a : Option Addr) (c : Nat) (Q : List Nat) (hn : n < 4294967296) (hl : Q.length ≤ 140737488351232) (w : World) (hr : Row1 w a Q) :
    Calls Try.prog 20 #[.int .u32 (n : Int), .slice a Q.length c] w fun e w' => e = .returned (.int .i64 (sr n Q)) ∧ w' = w := by
  have HZ := hide (rsized_any n)
  have HR := hide hr
  clear hr
  unfold sr
  by_cases h1 : sz n = 0
  · rw [if_neg (by simpa using h1)]
    rw [h1] at HZ
    clear h1
    by_cases h2 : Q.length < 1
    · rw [if_pos (.inl h2)]
      have hq0 : Q = [] := List.length_eq_zero_iff.1 (by omega)
      subst hq0
      clear h2
      go_enter Try.func20, Try.ntmps20
      go_wp2_with (fail)
      refine (HZ.out _).mono ?_
      rintro e1 w1 ⟨rfl, hw1⟩
      subst w1
      go_wp2
      all_goals go_ret
      all_goals exact ⟨rfl, rfl⟩
    · have hb0 : ¬ (Q.length : Int) < 1 := by omega
      by_cases h3 : 64 < Q.length
      · rw [if_pos (.inr (.inl h3))]
        have h3i : (64 : Int) < (Q.length : Int) := by omega
        clear h2
        go_enter Try.func20, Try.ntmps20
        go_wp2_with (fail)
        refine (HZ.out _).mono ?_
        rintro e1 w1 ⟨rfl, hw1⟩
        subst w1
        go_wp2
        all_goals go_ret
        all_goals exact ⟨rfl, rfl⟩
      · have h3i : ¬ (64 : Int) < (Q.length : Int) := by omega
        obtain ⟨R, hR⟩ : ∃ R : Int, (if Q.length < 1 ∨ 64 < Q.length ∨ ∃ q ∈ Q, n ≤ q then (130 : Int) else 0) = R := ⟨_, rfl⟩
        have HR1 : Hid ((∃ q ∈ Q, n ≤ q) → 130 = R) := fun hh => by rw [← hR, if_pos (.inr (.inr hh))]
        have HR0 : Hid ((∀ q ∈ Q, ¬ n ≤ q) → 0 = R) := fun hh => by
          rw [← hR, if_neg (fun h9 => by rcases h9 with h9 | h9 | ⟨q, h9, h8⟩; exact h2 h9; exact h3 h9; exact hh q h9 h8)]
        rw [hR]
        clear hR h2 h3
        go_enter Try.func20, Try.ntmps20
        go_wp2_with (fail)
        refine (HZ.out _).mono ?_
        rintro e1 w1 ⟨rfl, hw1⟩
        subst w1
        go_wp2_with (fail)
        go_loop [6] (fun t => ∃ i : Nat, i ≤ Q.length ∧ t = .int .i64 i ∧ Hid (∀ q ∈ Q.take i, ¬ n ≤ q)) (fun t => Q.length - (intOf t).toNat)
        case atStart => exact ⟨0, Nat.zero_le _, rfl, (show ∀ q ∈ Q.take 0, ¬ n ≤ q by simp)⟩
        case round =>
          obtain ⟨i, hi, rfl, HC⟩ := hrel
          by_cases cc : i < Q.length
          · have hcc : (i : Int) < (Q.length : Int) := by omega
            obtain ⟨q, hq⟩ : ∃ q, Q[i]? = some q := ⟨Q[i], List.getElem?_eq_getElem cc⟩
            obtain ⟨x, rfl, hx, hc⟩ := HR.out (by omega)
            have c1 := hc i q hq
            clear hc
            by_cases hnq : n ≤ q
            · have HT := hide (HR1.out ⟨q, List.mem_of_getElem? hq, hnq⟩)
              have h9 : (n : Int) ≤ (q : Int) := by omega
              clear hq
              go_wp2
              all_goals go_ret
              all_goals exact ⟨ret_int HT.out, by first | rfl | trivial⟩
            · have h9 : ¬ (n : Int) ≤ (q : Int) := by omega
              have HC1 : Hid (∀ q ∈ Q.take (i + 1), ¬ n ≤ q) := fun p hp => by
                rw [List.take_add_one, hq] at hp
                rcases List.mem_append.1 hp with hp | hp
                · exact HC.out p hp
                · simp at hp; subst hp; exact hnq
              clear hq
              go_wp2
              all_goals exact ⟨⟨i + 1, cc, by go_num, HC1⟩, by simp [intOf]; omega⟩
          · have hcc : ¬ (i : Int) < (Q.length : Int) := by omega
            have HT := hide (HR0.out (fun q hq => HC.out q (by rw [show i = Q.length by omega, List.take_length]; exact hq)))
            go_wp2
            all_goals go_ret
            all_goals exact ⟨ret_int HT.out, by first | rfl | trivial⟩
  · rw [if_pos h1]
    have hb : (sz n != 0) = true := by simpa using h1
    obtain ⟨z, hz⟩ : ∃ z, sz n = z := ⟨_, rfl⟩
    rw [hz] at hb HZ ⊢
    clear hz h1
    go_enter Try.func20, Try.ntmps20
    go_wp2_with (fail)
    refine (HZ.out _).mono ?_
    rintro e1 w1 ⟨rfl, hw1⟩
    subst w1
    go_wp2
    all_goals go_ret
    all_goals exact ⟨rfl, rfl⟩
end Au
end Go.Proofs.Ytcepfmeoeepjdab
