import Derived.Test.YtclgbificccadaaSvJ
namespace Go.Proofs.Ytclgbificccadaa
namespace Sv
open Go.RowKit Go.Shelf
set_option linter.unusedVariables false
attribute [local go_sem] Oper.semAt_some
/-- The part of a record. -/
abbrev pa (N K : Int) (e : T3) : Int := pt N K e.1
abbrev pn (N K : Int) (e : T3) : Nat := (pt N K e.1).toNat
/-- A list whose vertices are numbers of 32 bits, known to the ranges. -/
def Vx (N K : Int) (L : List T3) : Prop := ∀ e ∈ L, (Rg N K ∨ N ≤ e.1) ∧ 0 ≤ e.1 ∧ e.1 ≤ 4294967295
def Gd (N K : Int) (k : Nat) (L : List T3) : Prop := ∀ e ∈ L, 0 ≤ pa N K e ∧ pa N K e < k
theorem Gd.snoc {N K : Int} {k : Nat} {L : List T3} {e : T3} (h : Gd N K k L) (h0 : 0 ≤ pa N K e) (h1 : pa N K e < k) : Gd N K k (L ++ [e]) := fun x hx => by
  rcases List.mem_append.1 hx with h2 | h2
  · exact h x h2
  · rw [List.mem_singleton.1 h2]; exact ⟨h0, h1⟩
theorem wp_cut {P : Program} {c : Code} {Q : Exit → Act → World → Prop} {a : Act} {w : World} (T : World → Prop) (A1 : Act)
    (h : c.wp P (fun e a' w' => match e with | .normal => a' = A1 ∧ T w' | _ => False) a w) (hq : ∀ w', T w' → Q .normal A1 w') : c.wp P Q a w := by
  refine Code.wp_mono ?_ h
  intro e a' w' hh
  cases e with
  | normal => obtain ⟨rfl, ht⟩ := hh; exact hq w' ht
  | _ => exact hh.elim
theorem take_snoc {α : Type} {L : List α} {j : Nat} {e : α} (h : L[j]? = some e) : L.take (j + 1) = L.take j ++ [e] := by
  rw [List.take_add_one, h]; rfl
set_option maxRecDepth 20000 in
set_option maxHeartbeats 4000000 in
theorem census_any (N K : Int) (a : Option Addr) (c : Nat) (L : List T3) (k : Nat) (hk : 1 ≤ k) (hk2 : k ≤ 512) (hl : L.length * 24 ≤ 140737488355328) (hv : Vx N K L) (w : World) (hr : Row3 .u64 w a L) :
    Calls Try.prog 31 #[.slice a L.length c, .int .i64 (k : Int), .func (.func 14) #[rg N K] #[]] w fun e w' => Below w.heap.size w w' ∧
      ((Gd N K k L ∧ ∃ g, w.heap.size ≤ g ∧ e = .returned (.tuple #[.slice (some ⟨g, 0, none⟩) (k + 1) (k + 1), .bool true]) ∧ Rv w' g 3 (iv (mx (pn N K) L k k))) ∨
        (¬ Gd N K k L ∧ e = .returned (.tuple #[.slice none 0 0, .bool false]))) := by
  have HR : Hid (∀ W, Below w.heap.size w W → Row3 .u64 W a L) := fun W hW => hr.on hW (Nat.le_refl _)
  have hmk : ∀ W, (Instr.makeSlice 45 (.int .i64 ((k : Int) + 1)) (.int .i64 ((k : Int) + 1))).run Try.prog W = .ok (.slice (some ⟨W.heap.size, 0, none⟩) (k + 1) (k + 1)) (W.alloc (.cells (iv (List.replicate (k + 1) 0)).toArray 3)) := fun W => by
    have := make_ints W (k + 1) (by omega)
    push_cast at this
    exact this
  have hS : Rv (w.alloc (.cells (iv (List.replicate (k + 1) 0)).toArray 3)) w.heap.size 3 (iv (mx (pn N K) (L.take 0) k 0)) := by
    rw [List.take_zero, mx_nil]; exact Rv.new _ _ _
  have hB0 : Below w.heap.size w (w.alloc (.cells (iv (List.replicate (k + 1) 0)).toArray 3)) := b1 w 3 _
  have HV : Hid (Vx N K L) := hv
  clear hr hv
  go_enter Try.func31, Try.ntmps31
  go_wp2
  go_loopw [18] (fun i wr => ∃ j : Nat, j ≤ L.length ∧ i = .int .i64 (j : Int) ∧ Below w.heap.size w wr ∧ Rv wr w.heap.size 3 (iv (mx (pn N K) (L.take j) k 0)) ∧ Gd N K k (L.take j)) (fun i _ => L.length - (intOf i).toNat)
  case atStart => exact ⟨0, Nat.zero_le _, rfl, hB0, hS, fun e he => by simp at he⟩
  case round =>
    obtain ⟨j, hj, rfl, hB, hV, hG⟩ := hrel
    by_cases hlt : j < L.length
    · obtain ⟨e, he⟩ : ∃ e, L[j]? = some e := ⟨L[j], List.getElem?_eq_getElem hlt⟩
      obtain ⟨x, rfl, hx⟩ := HR.out wr hB (by omega)
      obtain ⟨x0, x1, x2⟩ := cells3 (hx.2 j e he)
      have hlt' : (j : Int) < (L.length : Int) := by omega
      obtain ⟨v1, v2, v3⟩ := HV.out e (List.mem_of_getElem? he)
      have HG : Hid (Gd N K k (L.take j)) := hG
      have HE : Hid (L[j]? = some e) := he
      have HT : Hid (Rv wr w.heap.size 3 (iv (mx (pn N K) (L.take j) k 0))) := hV
      clear hx hG he hV
      go_wp2_with (fail)
      refine (byTo_any N K _ _ _ v1 v2 v3 _).mono ?_
      rintro e1 w1 ⟨rfl, hb1⟩
      have hwl := hB.size
      have hBn : Below w.heap.size w w1 := (hB.alloc hwl _).trans (hb1.mono (by rw [World.size_alloc]; omega))
      replace HT : Hid (Rv w1 w.heap.size 3 (iv (mx (pn N K) (L.take j) k 0))) := (HT.out.alloc _).on hb1 (HT.out.alloc _).lt
      clear hb1 x0 x1 x2 v1 v2 v3
      by_cases hq0 : pt N K e.1 < 0
      · have HN : Hid (¬ Gd N K k L) := fun h => by have := (h e (List.mem_of_getElem? HE.out)).1; unfold pa at this; omega
        clear hS hB0 HR
        go_wp2
        go_ret2
        exact ⟨hBn, .inr ⟨HN.out, rfl⟩⟩
      by_cases hqk : (k : Int) ≤ pt N K e.1
      · have HN : Hid (¬ Gd N K k L) := fun h => by have := (h e (List.mem_of_getElem? HE.out)).2; unfold pa at this; omega
        clear hS hB0 HR
        go_wp2
        go_ret2
        exact ⟨hBn, .inr ⟨HN.out, rfl⟩⟩
      obtain ⟨p, hp⟩ : ∃ p : Nat, pt N K e.1 = (p : Int) := ⟨(pt N K e.1).toNat, by omega⟩
      have hpk : p < k := by omega
      have hpn : pn N K e = p := by unfold pn; rw [hp]; rfl
      have hn : (mx (pn N K) (L.take j) k 0)[p + 1]? = some (((L.take j).countP (fun y => pn N K y == p) : Nat) : Int) := by
        rw [mx_get _ _ k 0 (p + 1) (by omega), if_neg (by omega)]; rfl
      have hC := mx_count (pn N K) (L.take j) e k (by rw [hpn]; exact hpk)
      rw [hpn] at hC
      have hnl : (L.take j).countP (fun y => pn N K y == p) ≤ L.length := Nat.le_trans (cnt_le _ _) (by simp; omega)
      obtain ⟨n, hn9⟩ : ∃ n, n = (L.take j).countP (fun y => pn N K y == p) := ⟨_, rfl⟩
      rw [← hn9] at hn hC hnl
      have c1 := HT.out.cell (iv_get hn)
      have f1 := HT.out.frozen (p + 1)
      have HT' : Hid (Rv (w1.setCell ⟨w.heap.size, p + 1, none⟩ (.int .i64 ((n : Int) + 1))) w.heap.size 3 (iv (mx (pn N K) (L.take (j + 1)) k 0))) := by
        have h := HT.out.set (p + 1) (.int .i64 ((n : Int) + 1))
        rw [iv_set, hC, ← take_snoc HE.out] at h
        exact h
      have HG' : Hid (Gd N K k (L.take (j + 1))) := by
        have := HG.out.snoc (e := e) (by unfold pa; omega) (by unfold pa; omega)
        rw [← take_snoc HE.out] at this
        exact this
      have hpi : (p : Int) < (k : Int) := by omega
      have HBn : Hid (Below w.heap.size w (w1.setCell ⟨w.heap.size, p + 1, none⟩ (.int .i64 ((n : Int) + 1)))) := hBn.setCell (p := ⟨w.heap.size, p + 1, none⟩) (Nat.le_refl _) _
      rw [hp]
      clear hp hn hC hn9 hpn HT hq0 hqk hS hB0 HR HV hB hBn HG HE
      go_wp2
      exact ⟨⟨j + 1, by omega, by go_num, HBn.out, HT'.out, HG'.out⟩, by simp [intOf]; omega⟩
    · obtain rfl : j = L.length := by omega
      rw [List.take_length] at hV hG
      have HG : Hid (Gd N K k L) := hG
      have hki : (k : Int) ≤ 512 := by omega
      clear hS hB0 HR HV hG
      go_wp2
      obtain ⟨W0, rfl⟩ : ∃ W0, W0 = wr := ⟨_, rfl⟩
      go_loopw [41] (fun i wr => ∃ d : Nat, d ≤ k ∧ i = .int .i64 (d : Int) ∧ Below w.heap.size w wr ∧ Rv wr w.heap.size 3 (iv (mx (pn N K) L k d))) (fun i _ => k - (intOf i).toNat)
      case atStart => exact ⟨0, Nat.zero_le _, rfl, hB, hV⟩
      case round =>
        obtain ⟨d, hd, rfl, hB1, hV1⟩ := hrel
        by_cases hdk : d < k
        · have h0 : (mx (pn N K) L k d)[d]? = some ((opn (pn N K) L d : Nat) : Int) := by rw [mx_get _ _ k d d (by omega), if_pos (Nat.le_refl _)]
          have h1 : (mx (pn N K) L k d)[d + 1]? = some ((L.countP (fun y => pn N K y == d) : Nat) : Int) := by rw [mx_get _ _ k d (d + 1) (by omega), if_neg (by omega)]; rfl
          have hs := mx_sum (pn N K) L k d hdk
          have l0 := opn_le (pn N K) L d
          have l1 := cnt_le (fun y => pn N K y == d) L
          obtain ⟨m, hm⟩ : ∃ m, m = opn (pn N K) L d := ⟨_, rfl⟩
          obtain ⟨n, hn⟩ : ∃ n, n = L.countP (fun y => pn N K y == d) := ⟨_, rfl⟩
          rw [← hm] at h0 hs l0
          rw [← hn] at h1 hs l1
          have c0 := hV1.cell (iv_get h0)
          have c1 := hV1.cell (iv_get h1)
          have f1 := hV1.frozen (d + 1)
          have HT : Hid (Rv (wr.setCell ⟨w.heap.size, d + 1, none⟩ (.int .i64 ((n : Int) + (m : Int)))) w.heap.size 3 (iv (mx (pn N K) L k (d + 1)))) := by
            have h := hV1.set (d + 1) (.int .i64 ((n : Int) + (m : Int)))
            rw [iv_set, hs] at h
            exact h
          have HBn : Hid (Below w.heap.size w (wr.setCell ⟨w.heap.size, d + 1, none⟩ (.int .i64 ((n : Int) + (m : Int))))) := hB1.setCell (p := ⟨w.heap.size, d + 1, none⟩) (Nat.le_refl _) _
          have hdi : (d : Int) < (k : Int) := by omega
          have hw1 : IntKind.i64.wrap ((d : Int) + 1) = (d : Int) + 1 := wrap_small _ (by omega) (by omega)
          have hw2 : IntKind.i64.wrap ((n : Int) + (m : Int)) = (n : Int) + (m : Int) := by simp only [IntKind.wrap, IntKind.signed, IntKind.bits]; simp; omega
          have hd1 : (d : Int) + 1 < (k : Int) + 1 := by omega
          have hd2 : (d : Int) < (k : Int) + 1 := by omega
          clear h0 h1 hs hm hn hV hB hV1 hB1
          go_wp2
          apply wp_cut (fun w' => w' = (wr.setCell ⟨w.heap.size, d + 1, none⟩ (.int .i64 ((n : Int) + (m : Int)))).drew)
          case h =>
            go_region_with (fail)
            all_goals exact ⟨rfl, rfl⟩
          case hq =>
            rintro w9 rfl
            go_wp2
            exact ⟨⟨d + 1, by omega, by go_num, HBn.out.drew, HT.out⟩, by simp [intOf]; omega⟩
        · obtain rfl : d = k := by omega
          go_wp2
          go_ret2
          exact ⟨hB1, .inl ⟨HG.out, _, Nat.le_refl _, rfl, hV1⟩⟩
end Sv
end Go.Proofs.Ytclgbificccadaa
