import Derived.Test.YtcolkfoodjpdjaaRaG
namespace Go.Proofs.Ytcolkfoodjpdjaa
namespace Ra
open Go.RowKit
set_option linter.unusedVariables false
def dot : ByteArray := ⟨#[46]⟩
/-- An entry as All tells it. -/
def fe (nm : ByteArray) (e : En) : En := (nm ++ dot ++ e.1, e.2)
def part (d : Dt) (j : Nat) : List En := (List.range j).map (fun i => fe d.nm (d.E i))
def flat (D : Nat → Dt) : Nat → List En
  | 0 => []
  | k + 1 => flat D k ++ part (D k) (D k).l
theorem part_succ (d : Dt) (j : Nat) : part d (j + 1) = part d j ++ [fe d.nm (d.E j)] := by simp [part, List.range_succ]
theorem part_len (d : Dt) (j : Nat) : (part d j).length = j := by simp [part]
theorem flat_len (D : Nat → Dt) (k : Nat) : (flat D k).length + k = cnt D k := by
  induction k with
  | zero => rfl
  | succ k ih => show (flat D k ++ part (D k) (D k).l).length + (k + 1) = cnt D k + 1 + (D k).l; rw [List.length_append, part_len]; omega
/-- Entries as cells. -/
def lc (L : List En) : List Value := L.flatMap (fun e => [.string e.1, .string e.2])
theorem lc_snoc (L : List En) (e : En) : lc (L ++ [e]) = lc L ++ [.string e.1, .string e.2] := by simp [lc]
theorem lc_len (L : List En) : (lc L).length = L.length * 2 := by
  induction L with
  | nil => rfl
  | cons e L ih => show ([Value.string e.1, Value.string e.2] ++ lc L).length = _; rw [List.length_append, ih]; simp; omega
theorem lc_get (L : List En) (i : Nat) (e : En) (h : L[i]? = some e) : (lc L)[i * 2]? = some (.string e.1) ∧ (lc L)[i * 2 + 1]? = some (.string e.2) := by
  induction L generalizing i with
  | nil => simp at h
  | cons f L ih =>
    show ([Value.string f.1, Value.string f.2] ++ lc L)[i * 2]? = _ ∧ ([Value.string f.1, Value.string f.2] ++ lc L)[i * 2 + 1]? = _
    cases i with
    | zero => simp at h; subst h; simp
    | succ i =>
      simp only [List.getElem?_cons_succ] at h
      obtain ⟨a, b⟩ := ih i h
      rw [List.getElem?_append_right (by simp; omega), List.getElem?_append_right (by simp; omega)]
      simp only [List.length_cons, List.length_nil]
      rw [show (i + 1) * 2 - (0 + 1 + 1) = i * 2 by omega, show (i + 1) * 2 + 1 - (0 + 1 + 1) = i * 2 + 1 by omega]
      exact ⟨a, b⟩
/-- A row of our own that holds these entries. -/
def LR (w : World) (B : Nat) (v : Value) (L : List En) : Prop := w.ownsRow B 31 2 v L.length (lc L)
theorem LR.snoc {w : World} {B : Nat} {v : Value} {L : List En} {n : Nat} {e : En} (hn : L.length = n) (h : w.ownsRow B 31 2 v (n + 1) (lc L ++ [.string e.1, .string e.2])) : LR w B v (L ++ [e]) := by
  show w.ownsRow B 31 2 v (L ++ [e]).length (lc (L ++ [e]))
  rw [lc_snoc, List.length_append, hn]; exact h
theorem LR.draw {w : World} {B : Nat} {v : Value} {L : List En} (h : LR w B v L) (n : Nat) : LR (w.drewN n) B v L := h
/-- Names are short enough to be joined. -/
def Bd (D : Nat → Dt) (l : Nat) : Prop := ∀ i, i < l → (D i).nm.size ≤ 140737488351232 ∧ ∀ j, j < (D i).l → ((D i).E j).1.size ≤ 140737488351232
theorem hid {p : Prop} (h : p) : Hid p := h
/-- The cells of a section and of an entry. -/
abbrev C5 (x y : Addr) (k n : Nat) (nm : ByteArray) (l c : Nat) (e : En) (W : World) : Prop :=
  W.cell? (x.add (k * 2)) = some (.string nm) ∧ W.cell? ⟨(x.add (k * 2)).block, (x.add (k * 2)).off + 1, none⟩ = some (.slice (some y) l c) ∧
  W.cell? (y.add (n * 2)) = some (.string e.1) ∧ W.cell? ⟨(y.add (n * 2)).block, (y.add (n * 2)).off + 1, none⟩ = some (.string e.2)
set_option maxHeartbeats 3200000 in
set_option maxRecDepth 8000 in
theorem rall_any (a : Option Addr) (l c : Nat) (D : Nat → Dt) (w : World) (hl : cnt D l ≤ 100000) (hbd : Bd D l) (hr : SRow w a l D) :
    Calls Try.prog 7 #[.slice a l c] w fun e w' => ∃ v, e = .returned v ∧ LR w' w.heap.size v (flat D l) ∧ Below w.heap.size w w' := by
  have HR : Hid (SRow w a l D) := hr
  have hll := cnt_ge D l
  clear hr
  go_enter Try.func7, Try.ntmps7
  go_wp2
  go_loopw [3, 4] (fun v i wr => ∃ k : Nat, k ≤ l ∧ i = .int .i64 k ∧ LR wr w.heap.size v (flat D k) ∧ Below w.heap.size w wr) (fun _ i _ => l - (intOf i).toNat)
  case atStart => exact ⟨0, Nat.zero_le _, rfl, World.ownsRow_nil _ _ _ _, Below.refl _ _⟩
  case round =>
    obtain ⟨k, hk, rfl, hown, hB⟩ := hrel
    by_cases hlt : k < l
    · obtain ⟨x, rfl, hx⟩ := HR.out (by omega)
      have HX : Hid (SAt w x l D) := hx
      have HS := cnt_at D hlt
      have HFL := flat_len D k
      have hbk := hbd k hlt
      obtain ⟨p0, a1, c1, p1, hn1, e1⟩ := hx.2 k hlt
      have HP := hid (cells2 ⟨p0, p1⟩)
      have HEr : Hid (ERow w a1 (D k).l (D k).E) := e1
      have P1' := (hB.cell (p := ⟨(x.add (k * 2)).block, (x.add (k * 2)).off + 1, none⟩) (by rw [add_block]; exact hx.1)).trans HP.out.2
      clear hx p0 p1 e1 hn1
      go_wp2
      go_loopw [3, 5] (fun v j wr => ∃ n : Nat, n ≤ (D k).l ∧ j = .int .i64 n ∧ LR wr w.heap.size v (flat D k ++ part (D k) n) ∧ Below w.heap.size w wr) (fun _ j _ => (D k).l - (intOf j).toNat)
      case atStart => exact ⟨0, Nat.zero_le _, rfl, by simpa [part] using hown, hB⟩
      case round =>
        obtain ⟨n, hn, rfl, hown, hB⟩ := hrel
        have hsz := hB.size
        have P0 := (hB.cell (p := x.add (k * 2)) (by rw [add_block]; exact HX.out.1)).trans HP.out.1
        have P1 := (hB.cell (p := ⟨(x.add (k * 2)).block, (x.add (k * 2)).off + 1, none⟩) (by rw [add_block]; exact HX.out.1)).trans HP.out.2
        by_cases hnl : n < (D k).l
        · obtain ⟨y, rfl, hy⟩ := HEr.out (by omega)
          have HQ := hid (cells2 (hy.2 n hnl))
          have q0 := (hB.cell (p := y.add (n * 2)) (by rw [add_block]; exact hy.1)).trans HQ.out.1
          have q1 := (hB.cell (p := ⟨(y.add (n * 2)).block, (y.add (n * 2)).off + 1, none⟩) (by rw [add_block]; exact hy.1)).trans HQ.out.2
          have HK : Hid (∀ W, Below w.heap.size w W → C5 x y k n (D k).nm (D k).l c1 ((D k).E n) W) := fun W hW =>
            ⟨(hW.cell (p := x.add (k * 2)) (by rw [add_block]; exact HX.out.1)).trans HP.out.1, (hW.cell (p := ⟨(x.add (k * 2)).block, (x.add (k * 2)).off + 1, none⟩) (by rw [add_block]; exact HX.out.1)).trans HP.out.2,
             (hW.cell (p := y.add (n * 2)) (by rw [add_block]; exact hy.1)).trans HQ.out.1, (hW.cell (p := ⟨(y.add (n * 2)).block, (y.add (n * 2)).off + 1, none⟩) (by rw [add_block]; exact hy.1)).trans HQ.out.2⟩
          have s1 := hbk.1
          have s2 := hbk.2 n hnl
          clear hy HQ HP HEr P1'
          obtain ⟨nm, HN⟩ : ∃ nm, Hid ((D k).nm = nm) := ⟨_, rfl⟩
          obtain ⟨lk, HL⟩ : ∃ lk, Hid ((D k).l = lk) := ⟨_, rfl⟩
          obtain ⟨en, HE⟩ : ∃ en, Hid ((D k).E n = en) := ⟨_, rfl⟩
          have HO : Hid (wr.ownsRow w.heap.size 31 2 u3 ((flat D k).length + n) (lc (flat D k ++ part (D k) n))) := by
            have h9 : wr.ownsRow w.heap.size 31 2 u3 (flat D k ++ part (D k) n).length (lc (flat D k ++ part (D k) n)) := hown
            rw [List.length_append, part_len] at h9; exact h9
          rw [HN.out] at P0 s1
          rw [HL.out] at P1 HS hnl hn
          rw [HE.out] at q0 q1 s2
          have HB : Hid (Below w.heap.size w wr) := hB
          have hs1 : ¬ (9223372036854775807 < nm.size + 1) := by omega
          have hs2 : ¬ (9223372036854775807 < nm.size + 1 + en.1.size) := by omega
          clear hown hB hbd hbk
          go_wp2_with (fail)
          rw [HN.out, HL.out, HE.out] at HK
          go_region_held3 (C5 x y k n nm lk c1 en) ((first | exact HK.out _ hB3 | exact HK.out _ (below_drew HB.out 1) | exact HK.out _ (below_drew (HB.out.alloc hsz _) 1) | exact HK.out _ (HB.out.alloc hsz _)))
            ((refine step_append2 tpE (by rfl) _ _ (by rfl) w.heap.size u3 _ ((flat D k).length + n) 1 (lc (flat D k ++ part (D k) n)) [.string (nm ++ dot ++ en.1), .string en.2] (by rfl) (HO.out.alloc _) (by rfl) (src_new _ _ _ _ rfl rfl _) (by omega) (by simp; omega) ?_; intro v3 w3 hown3 hgr3 hat3; have hB3 : Below w.heap.size w w3 := (below_drew (HB.out.alloc hsz _) 1).grown hgr3 (by simp; omega) (fun j hj => (HO.out.lt j hj).1)))
          have HO3 : Hid (LR w3 w.heap.size v3 (flat D k ++ part (D k) (n + 1))) := by
            show LR w3 w.heap.size v3 (flat D k ++ part (D k) (n + 1))
            rw [part_succ, ← List.append_assoc]
            refine LR.snoc (n := (flat D k).length + n) (by rw [List.length_append, part_len]) ?_
            rw [HN.out, HE.out]; exact hown3
          have HB3 : Hid (Below w.heap.size w w3) := hB3
          clear hown3 hgr3 hat3 hB3 HK HO
          go_wp2
          go_roundw
          case rel => exact ⟨n + 1, by rw [HL.out]; omega, by go_num, HO3.out, HB3.out⟩
          case measure => rw [HL.out]; simp [intOf]; omega
        · go_wp2
          go_roundw
          case rel => exact ⟨k + 1, by omega, by go_num, by obtain rfl : n = (D k).l := by omega
                                                            exact hown, hB⟩
          case measure => simp [intOf]; omega
    · obtain rfl : k = l := by omega
      go_wp2
      go_ret
      exact ⟨_, rfl, hown, hB⟩
end Ra
end Go.Proofs.Ytcolkfoodjpdjaa
