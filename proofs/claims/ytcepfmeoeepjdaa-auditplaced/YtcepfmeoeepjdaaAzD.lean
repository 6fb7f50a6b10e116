import Derived.Test.YtcepfmeoeepjdaaAzM
namespace Go.Proofs.Ytcepfmeoeepjdaa
namespace Au
open Go.RowKit
set_option linter.unusedVariables false
set_option maxRecDepth 8000
/-- The document's labels and colours. -/
structure Kc (W w : World) (lb cb n : Nat) (ro c : Nat → Int) : Prop where
  l : GU W lb n ro
  c : GU W cb n c
  b : Below w.heap.size w W
theorem Kc.ext {W w : World} {lb cb n : Nat} {ro c c' : Nat → Int} (h : Kc W w lb cb n ro c) (hc : ∀ v, v < n → c v = c' v) : Kc W w lb cb n ro c' := ⟨h.l, h.c.ext hc, h.b⟩
theorem Kc.set {W w : World} {lb cb n : Nat} {ro c : Nat → Int} (h : Kc W w lb cb n ro c) (hne : lb ≠ cb) (hw : w.heap.size ≤ cb) (j : Nat) (x : Int) : Kc (W.setCell ⟨cb, j, none⟩ (.int .u64 x)) w lb cb n ro (up c j x) ∧ ∀ k, k ≠ cb → (W.setCell ⟨cb, j, none⟩ (.int .u64 x)).heap[k]? = W.heap[k]? := by
  obtain ⟨h1, C, h2⟩ := h.c.set j x
  have ho : ∀ k, k ≠ cb → (W.setCell ⟨cb, j, none⟩ (.int .u64 x)).heap[k]? = W.heap[k]? := fun k hk => by rw [h2]; exact setRow_other _ _ _ _ hk
  exact ⟨⟨h.l.of (ho _ hne), h1, by rw [h2]; exact below_setRow h.b hw _⟩, ho⟩
theorem Kc.dr {W w : World} {lb cb n : Nat} {ro c : Nat → Int} (h : Kc W w lb cb n ro c) : Kc W.drew w lb cb n ro c := ⟨h.l.of rfl, h.c.of rfl, belowD h.b⟩
structure Kd (W w : World) (lb cb hb n : Nat) (ro c : Nat → Int) (H : Nat → Bool) : Prop where
  k : Kc W w lb cb n ro c
  h : GH W hb n H
theorem Kd.setc {W w : World} {lb cb hb n : Nat} {ro c : Nat → Int} {H : Nat → Bool} (h : Kd W w lb cb hb n ro c H) (hne : lb ≠ cb) (hb' : hb ≠ cb) (hw : w.heap.size ≤ cb) (j : Nat) (x : Int) : Kd (W.setCell ⟨cb, j, none⟩ (.int .u64 x)) w lb cb hb n ro (up c j x) H := by
  obtain ⟨a, b⟩ := h.k.set hne hw j x
  exact ⟨a, h.h.of (b _ hb')⟩
theorem Kd.seth {W w : World} {lb cb hb n : Nat} {ro c : Nat → Int} {H : Nat → Bool} (h : Kd W w lb cb hb n ro c H) (h1 : lb ≠ hb) (h2 : cb ≠ hb) (hw : w.heap.size ≤ hb) (j : Nat) (x : Bool) : Kd (W.setCell ⟨hb, j, none⟩ (.bool x)) w lb cb hb n ro c (fun v => if v = j then x else H v) := by
  obtain ⟨a, C, b⟩ := h.h.set j x
  have ho : ∀ k, k ≠ hb → (W.setCell ⟨hb, j, none⟩ (.bool x)).heap[k]? = W.heap[k]? := fun k hk => by rw [b]; exact setRow_other _ _ _ _ hk
  exact ⟨⟨h.k.l.of (ho _ h1), h.k.c.of (ho _ h2), by rw [b]; exact below_setRow h.k.b hw _⟩, a⟩
theorem Kd.dr {W w : World} {lb cb hb n : Nat} {ro c : Nat → Int} {H : Nat → Bool} (h : Kd W w lb cb hb n ro c H) : Kd W.drew w lb cb hb n ro c H := ⟨h.k.dr, h.h.of rfl⟩
theorem Kd.exth {W w : World} {lb cb hb n : Nat} {ro c : Nat → Int} {H H' : Nat → Bool} (h : Kd W w lb cb hb n ro c H) (he : ∀ v, v < n → H v = H' v) : Kd W w lb cb hb n ro c H' := by
  obtain ⟨a, C, b, d⟩ := h
  exact ⟨a, C, b, fun v hv => by rw [← he v hv]; exact d v hv⟩
theorem Kd.extc {W w : World} {lb cb hb n : Nat} {ro c c' : Nat → Int} {H : Nat → Bool} (h : Kd W w lb cb hb n ro c H) (he : ∀ v, v < n → c v = c' v) : Kd W w lb cb hb n ro c' H := ⟨h.k.ext he, h.h⟩
theorem spc_old {c : Nat → Int} {e : T3} (h : nwc c e = false) : spc c e = c := by unfold spc; rw [if_neg (by rw [h]; simp)]
theorem spc_new {c : Nat → Int} {e : T3} (h : nwc c e = true) : spc c e = up c (cz9 c e) (1 - c (cu9 c e)) := by unfold spc; rw [if_pos h]
theorem cuA {c : Nat → Int} {x y z : Nat} (h : c x = NN) : cu9 c (x, y, z) = y ∧ cz9 c (x, y, z) = x := by unfold cu9 cz9; exact ⟨if_pos h, if_pos h⟩
theorem cuB {c : Nat → Int} {x y z : Nat} (h : c x ≠ NN) : cu9 c (x, y, z) = x ∧ cz9 c (x, y, z) = y := by unfold cu9 cz9; exact ⟨if_neg h, if_neg h⟩
theorem w1m {q : Int} (h : q = 0 ∨ q = 1) : IntKind.u64.wrap (1 - q) = 1 - q := by rcases h with rfl | rfl <;> rfl
/-- Colours read back out of the world. -/
def cun (W : World) (b v : Nat) : Bool := match W.cell? ⟨b, v, none⟩ with | some (.int _ x) => x == NN | _ => false
theorem Kc.un {W w : World} {lb cb n : Nat} {ro c : Nat → Int} (h : Kc W w lb cb n ro c) : ct9 (cun W cb) n = un c n := ct9_ext (fun v hv => by unfold cun; rw [h.c.cell v hv])
def bg9 (p : Value) : Nat := match p with | .bool true => 1 | _ => 0
abbrev S27 (cb x y : Nat) (ax ay : Addr) (p q : Int) (w : World) : Prop := w.cell? ax = some (.int .u32 (x : Int)) ∧ w.cell? ay = some (.int .u32 (y : Int)) ∧ w.cell? ⟨cb, x, none⟩ = some (.int .u64 p) ∧ w.cell? ⟨cb, y, none⟩ = some (.int .u64 q)
theorem Row3.read {w : World} {a : Option Addr} {L : List T3} (h : Row3 .u32 w a L) {i : Nat} (hi : i < L.length) : ∃ eb x y z, a = some eb ∧ L[i]? = some (x, y, z) ∧ eb.block < w.heap.size ∧ ∀ W, Below w.heap.size w W → W.cell? (eb.add (i * 3)) = some (.int .u32 (x : Int)) ∧ W.cell? ⟨(eb.add (i * 3)).block, (eb.add (i * 3)).off + 1, none⟩ = some (.int .u32 (y : Int)) := by
  obtain ⟨eb, rfl, heb, hce⟩ := h (by omega)
  obtain ⟨⟨x, y, z⟩, hxyz⟩ : ∃ e, L[i]? = some e := ⟨L[i]'(by omega), List.getElem?_eq_getElem (by omega)⟩
  obtain ⟨c1, c2, _⟩ := cells3 (hce i _ hxyz)
  simp only at c1 c2
  exact ⟨eb, x, y, z, rfl, hxyz, heb, fun W hW => ⟨(hW.cell (p := eb.add (i * 3)) (by rw [add_block]; exact heb)).trans c1, (hW.cell (p := ⟨(eb.add (i * 3)).block, (eb.add (i * 3)).off + 1, none⟩) (by rw [show (⟨(eb.add (i * 3)).block, (eb.add (i * 3)).off + 1, none⟩ : Addr).block = eb.block from add_block _ _]; exact heb)).trans c2⟩⟩
set_option maxHeartbeats 8000000 in
theorem rcolours_any (n m ec : Nat) (a : Option Addr) (L : List T3) (hm1 : m = L.length) (hn : n ≤ 5000) (hm : m ≤ 140737488351232) (w : World) (hE : Row3 .u32 w a L) (hI : ∀ e ∈ L, e.1 < n ∧ e.2.1 < n) :
    Calls Try.prog 35 #[.int .u32 (n : Int), .slice a m ec] w fun e w' => ∃ cb c, e = .returned (.slice (some ⟨cb, 0, none⟩) n n) ∧ GU w' cb n c ∧ (∀ U2 r, Fo (2 * n) (dbl n L) U2 r → ∀ v, v < n → c v = col n r v) ∧ w.heap.size ≤ cb ∧ Below w.heap.size w w' := by
  subst hm1
  have HWc := hide (rwcc_any n L.length ec a L rfl hn hm w hE hI)
  have HE : Hid (∀ i, i < L.length → ∃ eb x y z, a = some eb ∧ L[i]? = some (x, y, z) ∧ eb.block < w.heap.size ∧ ∀ W, Below w.heap.size w W → W.cell? (eb.add (i * 3)) = some (.int .u32 (x : Int)) ∧ W.cell? ⟨(eb.add (i * 3)).block, (eb.add (i * 3)).off + 1, none⟩ = some (.int .u32 (y : Int))) := fun i hi => hE.read hi
  have HI := hide hI
  clear hE hI
  go_enter Try.func35, Try.ntmps35
  go_wp2_with (fail)
  refine HWc.out.mono ?_
  rintro e1 w1 ⟨rfl, U, ro, hF, hG1, hB1⟩
  have hmk := make_u32 w1 n (by omega)
  have hG0 := GU.new w1 n
  obtain ⟨w2, hw2⟩ : ∃ w2, w1.alloc (.cells (madeCells #[.int .u64 0] n) 28) = w2 := ⟨_, rfl⟩
  rw [hw2] at hmk hG0
  have hB2 : Below w1.heap.size w1 w2 := by rw [← hw2]; exact b1 _ _ _
  have hsz1 : w.heap.size < w1.heap.size := hG1.lt
  obtain ⟨lb, hlb⟩ : ∃ lb, lb = w.heap.size := ⟨_, rfl⟩
  obtain ⟨cb, hcb⟩ : ∃ cb, cb = w1.heap.size := ⟨_, rfl⟩
  rw [← hlb] at hG1 ⊢
  rw [← hcb] at hmk hG0
  have HK0 : Hid (Kc w2 w lb cb n ro (fun v => if v < 0 then (if ro v = (v : Int) then 0 else NN) else 0)) := ⟨hG1.of (hB2.block _ (by omega)), hG0.ext (fun v _ => by simp), hB1.trans (hB2.mono (by omega))⟩
  have HNe : Hid (lb ≠ cb ∧ w.heap.size ≤ cb ∧ w.heap.size ≤ lb) := ⟨by omega, by omega, by omega⟩
  have HFo := hide hF
  have HRo : Hid (∀ v, v < n → 0 ≤ ro v ∧ ro v ≤ (v : Int)) := hF.r
  clear HWc hF hG1 hB1 hG0 hw2 hB2 hsz1 hlb hcb
  go_wp2_with (fail)
  clear hmk
  go_loopw [7] (fun t wr => ∃ j : Nat, j ≤ n ∧ t = .int .i64 j ∧ Hid (Kc wr w lb cb n ro (fun v => if v < j then (if ro v = (v : Int) then 0 else NN) else 0))) (fun t _ => n - (intOf t).toNat)
  case atStart => exact ⟨0, Nat.zero_le _, rfl, HK0⟩
  case round =>
    clear HK0
    obtain ⟨j, hj, rfl, HK⟩ := hrel
    by_cases cc : j < n
    · have hcc : (j : Int) < (n : Int) := by omega
      have hju : IntKind.u64.wrap (j : Int) = j := wu _ (by omega) (by omega)
      obtain ⟨hK1, ho1⟩ := HK.out.set HNe.out.1 HNe.out.2.1 j NN
      have c1 := HK.out.c.cell j cc
      have f1 := HK.out.c.fz j
      have l1 : (wr.setCell ⟨cb, j, none⟩ (.int .u64 18446744073709551615)).cell? ⟨lb, j, none⟩ = some (.int .u64 (ro j)) := hK1.l.cell j cc
      have c2 : (wr.setCell ⟨cb, j, none⟩ (.int .u64 18446744073709551615)).cell? ⟨cb, j, none⟩ = some (.int .u64 18446744073709551615) := by
        have h := hK1.c.cell j cc
        rw [up_eq] at h; exact h
      have f2 : (wr.setCell ⟨cb, j, none⟩ (.int .u64 18446744073709551615)).frozen? ⟨cb, j, none⟩ = false := hK1.c.fz j
      have hK2 := (hK1.set HNe.out.1 HNe.out.2.1 j 0).1
      by_cases hr : ro j = (j : Int)
      · have hb : (ro j == (j : Int)) = true := by simpa using hr
        have HK3 : Hid (Kc ((wr.setCell ⟨cb, j, none⟩ (.int .u64 18446744073709551615)).setCell ⟨cb, j, none⟩ (.int .u64 0)) w lb cb n ro (fun v => if v < j + 1 then (if ro v = (v : Int) then 0 else NN) else 0)) := hK2.ext (fun v _ => by
          by_cases e : v = j
          · subst e; rw [up_eq, if_pos (by omega), if_pos hr]
          · rw [up_ne _ _ _ _ e, up_ne _ _ _ _ e]
            by_cases e2 : v < j
            · rw [if_pos e2, if_pos (show v < j + 1 by omega)]
            · rw [if_neg e2, if_neg (show ¬ v < j + 1 by omega)])
        rw [hr] at l1
        clear hK1 hK2 HK ho1 hb hr
        go_wp2
        all_goals exact ⟨⟨j + 1, cc, by go_num, HK3⟩, by simp [intOf]; omega⟩
      · have hb : (ro j == (j : Int)) = false := by simpa using hr
        have HK3 : Hid (Kc (wr.setCell ⟨cb, j, none⟩ (.int .u64 18446744073709551615)) w lb cb n ro (fun v => if v < j + 1 then (if ro v = (v : Int) then 0 else NN) else 0)) := hK1.ext (fun v _ => by
          by_cases e : v = j
          · subst e; rw [up_eq, if_pos (by omega), if_neg hr]
          · rw [up_ne _ _ _ _ e]
            by_cases e2 : v < j
            · rw [if_pos e2, if_pos (show v < j + 1 by omega)]
            · rw [if_neg e2, if_neg (show ¬ v < j + 1 by omega)])
        obtain ⟨rj, hrj⟩ : ∃ rj, ro j = rj := ⟨_, rfl⟩
        rw [hrj] at l1 hb
        clear hK1 hK2 HK ho1 hr hrj
        go_wp2
        all_goals exact ⟨⟨j + 1, cc, by go_num, HK3⟩, by simp [intOf]; omega⟩
    · have hjn : n = j := by omega
      subst hjn
      have HK1 : Hid (Kc wr w lb cb n ro (fun v => if ro v = (v : Int) then 0 else NN)) := HK.out.ext (fun v hv => by rw [if_pos hv])
      have hmb := make_bool wr n (by omega)
      have hH0 := GH.new wr n
      have hb3 : Below wr.heap.size wr (wr.alloc (.cells (madeCells #[.bool false] n) 4)) := b1 _ _ _
      obtain ⟨w3, hw3⟩ : ∃ w3, wr.alloc (.cells (madeCells #[.bool false] n) 4) = w3 := ⟨_, rfl⟩
      rw [hw3] at hmb hH0 hb3
      obtain ⟨hb, hhb⟩ : ∃ hb, hb = wr.heap.size := ⟨_, rfl⟩
      rw [← hhb] at hmb hH0
      have hl1 := HK1.out.l.lt
      have hl2 := HK1.out.c.lt
      have hl3 := HK1.out.b.size
      have HD : Hid (Kd w3 w lb cb hb n ro (fun v => if ro v = (v : Int) then 0 else NN) (fun _ => false)) := ⟨⟨HK1.out.l.of (hb3.block _ hl1), HK1.out.c.of (hb3.block _ hl2), HK1.out.b.trans (hb3.mono hl3)⟩, hH0⟩
      have HNh : Hid (lb ≠ hb ∧ cb ≠ hb ∧ w.heap.size ≤ hb) := ⟨by omega, by omega, by omega⟩
      clear HK HK1 cc hj hw3 hb3 hH0 hl1 hl2 hl3 hhb
      go_wp2_with (fail)
      clear hmb
      go_loopw [9] (fun p wr => ∃ (c : Nat → Int) (b : Bool), p = .bool b ∧ Hid (Kd wr w lb cb hb n ro c (fun _ => false)) ∧ Hid (CI n L ro c ∧ (b = false → ∀ e ∈ L, (c e.1 = NN ↔ c e.2.1 = NN)))) (fun p wr => 2 * ct9 (cun wr cb) n + bg9 p)
      case atStart => exact ⟨_, true, rfl, HD, CI.start, fun h => by cases h⟩
      case round =>
        clear HD
        obtain ⟨A, b, rfl, HD, HM⟩ := hrel
        cases b with
        | true =>
          have HMe : Hid (ct9 (cun wr cb) n = un A n) := HD.out.k.un
          obtain ⟨W0, hW0⟩ : ∃ W0, W0 = wr := ⟨_, rfl⟩
          have HP0 : Hid (Pc n L (L.take 0) ro A A false) := Pc.begin HM.out.1
          subst hW0
          go_wp2_with (fail)
          go_loopw [10, 9] (fun t p wr => ∃ (i : Nat) (c : Nat → Int) (b : Bool), i ≤ L.length ∧ t = .int .i64 i ∧ p = .bool b ∧ Hid (Kd wr w lb cb hb n ro c (fun _ => false)) ∧ Hid (Pc n L (L.take i) ro A c b)) (fun t _ _ => L.length - (intOf t).toNat)
          case atStart => exact ⟨0, A, false, Nat.zero_le _, rfl, rfl, HD, HP0⟩
          case round =>
            clear HD HP0
            obtain ⟨i, c, b, hi, rfl, rfl, HD, HP⟩ := hrel
            by_cases ci : i < L.length
            · have hci : (i : Int) < (L.length : Int) := by omega
              obtain ⟨eb, x, y, z, rfl, hxyz, heb, hrd⟩ := HE.out i ci
              obtain ⟨hxn, hyn⟩ := HI.out _ (List.mem_of_getElem? hxyz)
              simp only at hxn hyn
              obtain ⟨d1, d2⟩ := hrd wr HD.out.k.b
              have hmem := List.mem_of_getElem? hxyz
              have hjE : ro x = ro y := HFo.out.j (x, y) (List.mem_map.2 ⟨(x, y, z), hmem, rfl⟩)
              have hPs : Pc n L (L.take (i + 1)) ro A (spc c (x, y, z)) (b || nwc c (x, y, z)) := by rw [take_succ hxyz]; exact HP.out.step _ hmem hxn hyn hjE
              have cx := HD.out.k.c.cell x hxn
              have cy := HD.out.k.c.cell y hyn
              have fx := HD.out.k.c.fz x
              have fy := HD.out.k.c.fz y
              have p1x := HP.out.ci.p1 x hxn
              have p1y := HP.out.ci.p1 y hyn
              obtain ⟨p, hp⟩ : ∃ p, c x = p := ⟨_, rfl⟩
              obtain ⟨q, hq⟩ : ∃ q, c y = q := ⟨_, rfl⟩
              rw [hp] at cx p1x
              rw [hq] at cy p1y
              have Hp := hide hp
              have Hq := hide hq
              have HPs := hide hPs
              have HP1 := hide (And.intro p1x p1y)
              clear hrd heb hmem hjE hPs HP hp hq p1x p1y hxyz
              by_cases hA : p = NN
              · obtain ⟨hcu, hcz⟩ := cuA (c := c) (x := x) (y := y) (z := z) (by rw [Hp.out]; exact hA)
                have hb1 : (p == 18446744073709551615) = true := by simpa using hA
                by_cases hB : q = NN
                · have hn : nwc c (x, y, z) = false := by unfold nwc; rw [hcu, hcz, Hp.out, Hq.out, hB]; simp
                  have HP2 : Hid (Pc n L (L.take (i + 1)) ro A c b) := by
                    have h := HPs.out
                    rw [spc_old hn, hn, Bool.or_false] at h; exact h
                  have hb2 : (q == 18446744073709551615) = true := by simpa using hB
                  have hb3 : (q != 18446744073709551615) = false := by simpa using hB
                  clear HPs hcu hcz hn hA hB HP1 Hp Hq
                  go_wp2
                  all_goals exact ⟨⟨i + 1, c, b, ci, by go_num, rfl, HD, HP2⟩, by simp [intOf]; omega⟩
                · have hb2 : (q == 18446744073709551615) = false := by simpa using hB
                  have hb3 : (q != 18446744073709551615) = true := by simpa using hB
                  have hn : nwc c (x, y, z) = true := by unfold nwc; rw [hcu, hcz, Hp.out, Hq.out, hA]; rw [show (q != NN) = true from hb3]; simp
                  have HP2 : Hid (Pc n L (L.take (i + 1)) ro A (up c x (1 - q)) true) := by
                    have h := HPs.out
                    rw [spc_new hn, hn, Bool.or_true, hcu, hcz, Hq.out] at h; exact h
                  have HD2 : Hid (Kd (wr.setCell ⟨cb, x, none⟩ (.int .u64 (1 - q))) w lb cb hb n ro (up c x (1 - q)) (fun _ => false)) := HD.out.setc HNe.out.1 (Ne.symm HNh.out.2.1) HNe.out.2.1 x _
                  have hw1 := w1m (HP1.out.2.resolve_left hB)
                  clear HPs hcu hcz hn hA hB HP1 Hp Hq HD
                  go_wp2
                  all_goals exact ⟨⟨i + 1, up c x (1 - q), true, ci, by go_num, rfl, HD2, HP2⟩, by simp [intOf]; omega⟩
              · obtain ⟨hcu, hcz⟩ := cuB (c := c) (x := x) (y := y) (z := z) (by rw [Hp.out]; exact hA)
                have hb1 : (p == 18446744073709551615) = false := by simpa using hA
                have hb4 : (p != 18446744073709551615) = true := by simpa using hA
                by_cases hB : q = NN
                · have hb2 : (q == 18446744073709551615) = true := by simpa using hB
                  have hn : nwc c (x, y, z) = true := by unfold nwc; rw [hcu, hcz, Hp.out, Hq.out, hB]; rw [show (p != NN) = true from hb4]; simp
                  have HP2 : Hid (Pc n L (L.take (i + 1)) ro A (up c y (1 - p)) true) := by
                    have h := HPs.out
                    rw [spc_new hn, hn, Bool.or_true, hcu, hcz, Hp.out] at h; exact h
                  have HD2 : Hid (Kd (wr.setCell ⟨cb, y, none⟩ (.int .u64 (1 - p))) w lb cb hb n ro (up c y (1 - p)) (fun _ => false)) := HD.out.setc HNe.out.1 (Ne.symm HNh.out.2.1) HNe.out.2.1 y _
                  have hw1 := w1m (HP1.out.1.resolve_left hA)
                  clear HPs hcu hcz hn hA hB HP1 Hp Hq HD
                  go_wp2
                  all_goals exact ⟨⟨i + 1, up c y (1 - p), true, ci, by go_num, rfl, HD2, HP2⟩, by simp [intOf]; omega⟩
                · have hb2 : (q == 18446744073709551615) = false := by simpa using hB
                  have hn : nwc c (x, y, z) = false := by unfold nwc; rw [hcu, hcz, Hp.out, Hq.out]; rw [show (q == NN) = false from hb2]; simp
                  have HP2 : Hid (Pc n L (L.take (i + 1)) ro A c b) := by
                    have h := HPs.out
                    rw [spc_old hn, hn, Bool.or_false] at h; exact h
                  clear HPs hcu hcz hn hA hB HP1 Hp Hq
                  go_wp2
                  all_goals exact ⟨⟨i + 1, c, b, ci, by go_num, rfl, HD, HP2⟩, by simp [intOf]; omega⟩
            · have him : i = L.length := by omega
              subst him
              rw [List.take_length] at HP
              have HM2 : Hid (CI n L ro c ∧ (b = false → ∀ e ∈ L, (c e.1 = NN ↔ c e.2.1 = NN))) := ⟨HP.out.ci, fun hb => (HP.out.no hb).2⟩
              have HMs : Hid (2 * ct9 (cun wr cb) n + bg9 (.bool b) < 2 * ct9 (cun W0 cb) n + bg9 (.bool true)) := by
                show _ < _
                rw [HD.out.k.un, HMe.out]
                cases b with
                | true => have := HP.out.ys rfl; show 2 * _ + 1 < 2 * _ + 1; omega
                | false => have := HP.out.le; show 2 * _ + 0 < 2 * _ + 1; omega
              clear HP HMe
              go_wp2
              all_goals exact ⟨⟨c, b, rfl, HD, HM2⟩, HMs.out⟩
        | false =>
          have HCf : Hid (CI n L ro A ∧ ∀ v, v < n → A v = 0 ∨ A v = 1) := ⟨HM.out.1, fun v hv => HM.out.1.full HFo.out (HM.out.2 rfl) v hv⟩
          have HD1 : Hid (Kd wr w lb cb hb n ro A (fun t => odl A ro (L.take 0) t)) := HD.out.exth (fun v _ => by simp [odl])
          clear HD HM
          go_wp2_with (fail)
          go_loopw [13] (fun t wr => ∃ i : Nat, i ≤ L.length ∧ t = .int .i64 i ∧ Hid (Kd wr w lb cb hb n ro A (fun t => odl A ro (L.take i) t))) (fun t _ => L.length - (intOf t).toNat)
          case atStart => exact ⟨0, Nat.zero_le _, rfl, HD1⟩
          case round =>
            clear HD1
            obtain ⟨i, hi, rfl, HD⟩ := hrel
            by_cases ci : i < L.length
            · have hci : (i : Int) < (L.length : Int) := by omega
              obtain ⟨eb, x, y, z, rfl, hxyz, heb, hrd⟩ := HE.out i ci
              obtain ⟨hxn, hyn⟩ := HI.out _ (List.mem_of_getElem? hxyz)
              simp only at hxn hyn
              obtain ⟨d1, d2⟩ := hrd wr.drew (belowD HD.out.k.b)
              have hDd := HD.out.dr
              obtain ⟨t, ht⟩ : ∃ t : Nat, ro x = (t : Int) := ⟨(ro x).toNat, by have := HRo.out x hxn; omega⟩
              have htn : t < n := by have := HRo.out x hxn; omega
              have lx := hDd.k.l.cell x hxn
              rw [ht] at lx
              have ch := hDd.h.cell t htn
              have fh := hDd.h.fz t
              have cx := hDd.k.c.cell x hxn
              have cy := hDd.k.c.cell y hyn
              have HS : Hid (S27 cb x y (eb.add (i * 3)) ⟨(eb.add (i * 3)).block, (eb.add (i * 3)).off + 1, none⟩ (A x) (A y) wr.drew) := ⟨d1, d2, cx, cy⟩
              have HD2 : Hid (A x = A y → Kd (wr.drew.setCell ⟨hb, t, none⟩ (.bool true)) w lb cb hb n ro A (fun t => odl A ro (L.take (i + 1)) t)) := fun he => (hDd.seth HNh.out.1 HNh.out.2.1 HNh.out.2.2 t true).exth (fun v _ => by
                rw [take_succ hxyz, odl_app]
                simp only [he, beq_self_eq_true, Bool.true_and, ht]
                by_cases e : v = t
                · subst e; simp
                · have h9 : ((t : Int) == (v : Int)) = false := by simp; omega
                  rw [if_neg e, h9, Bool.or_false])
              have HD3 : Hid (A x ≠ A y → Kd wr.drew w lb cb hb n ro A (fun t => odl A ro (L.take (i + 1)) t)) := fun he => hDd.exth (fun v _ => by
                rw [take_succ hxyz, odl_app]
                have h9 : (A x == A y) = false := by simpa using he
                simp only [h9, Bool.false_and, Bool.or_false])
              obtain ⟨p, hp⟩ : ∃ p, A x = p := ⟨_, rfl⟩
              obtain ⟨q, hq⟩ : ∃ q, A y = q := ⟨_, rfl⟩
              obtain ⟨o, ho⟩ : ∃ o, odl A ro (L.take i) t = o := ⟨_, rfl⟩
              simp only [ho] at ch
              rw [hp, hq] at HS HD2 HD3
              clear hrd heb hxyz hDd HD cx cy hp hq ho ht d2
              by_cases hA : p = q
              · have hb1 : (p == q) = true := by simpa using hA
                have HD4 := hide (HD2.out hA)
                clear HD2 HD3 hA
                go_wp2_with (fail)
                go_region_held3 (S27 cb x y (eb.add (i * 3)) ⟨(eb.add (i * 3)).block, (eb.add (i * 3)).off + 1, none⟩ p q) ((with_reducible exact HS.out)) ((fail))
                clear HS
                go_wp2
                all_goals exact ⟨⟨i + 1, ci, by go_num, HD4⟩, by simp [intOf]; omega⟩
              · have hb1 : (p == q) = false := by simpa using hA
                have HD4 := hide (HD3.out hA)
                clear HD2 HD3 hA ch fh lx d1
                go_wp2_with (fail)
                go_region_held3 (S27 cb x y (eb.add (i * 3)) ⟨(eb.add (i * 3)).block, (eb.add (i * 3)).off + 1, none⟩ p q) ((with_reducible exact HS.out)) ((fail))
                clear HS
                go_wp2
                all_goals exact ⟨⟨i + 1, ci, by go_num, HD4⟩, by simp [intOf]; omega⟩
            · have him : i = L.length := by omega
              subst him
              have HD5 : Hid (Kd wr w lb cb hb n ro (fun v => if v < 0 then (if odl A ro L (ro v).toNat = true then 2 else A v) else A v) (fun t => odl A ro L t)) := by
                have h := HD.out
                rw [List.take_length] at h
                exact h.extc (fun v _ => by simp)
              clear HD ci hi
              go_wp2_with (fail)
              go_loopw [14] (fun t wr => ∃ j : Nat, j ≤ n ∧ t = .int .i64 j ∧ Hid (Kd wr w lb cb hb n ro (fun v => if v < j then (if odl A ro L (ro v).toNat = true then 2 else A v) else A v) (fun t => odl A ro L t))) (fun t _ => n - (intOf t).toNat)
              case atStart => exact ⟨0, Nat.zero_le _, rfl, HD5⟩
              case round =>
                clear HD5
                obtain ⟨j, hj, rfl, HD⟩ := hrel
                by_cases cc : j < n
                · have hcc : (j : Int) < (n : Int) := by omega
                  obtain ⟨t, ht⟩ : ∃ t : Nat, ro j = (t : Int) := ⟨(ro j).toNat, by have := HRo.out j cc; omega⟩
                  have htn : t < n := by have := HRo.out j cc; omega
                  have lx := HD.out.k.l.cell j cc
                  rw [ht] at lx
                  have ch := HD.out.h.cell t htn
                  have cx := HD.out.k.c.cell j cc
                  have fx := HD.out.k.c.fz j
                  obtain ⟨p, hp⟩ : ∃ p, (if j < j then (if odl A ro L (ro j).toNat = true then 2 else A j) else A j) = p := ⟨_, rfl⟩
                  rw [hp] at cx
                  have htt : (ro j).toNat = t := by omega
                  have HD2 : Hid (odl A ro L t = true → Kd (wr.setCell ⟨cb, j, none⟩ (.int .u64 2)) w lb cb hb n ro (fun v => if v < j + 1 then (if odl A ro L (ro v).toNat = true then 2 else A v) else A v) (fun t => odl A ro L t)) := fun ho => (HD.out.setc HNe.out.1 (Ne.symm HNh.out.2.1) HNe.out.2.1 j 2).extc (fun v _ => by
                    by_cases e : v = j
                    · subst e; rw [up_eq, if_pos (show v < v + 1 by omega), htt, if_pos ho]
                    · rw [up_ne _ _ _ _ e]
                      by_cases e2 : v < j
                      · rw [if_pos e2, if_pos (show v < j + 1 by omega)]
                      · rw [if_neg e2, if_neg (show ¬ v < j + 1 by omega)])
                  have HD3 : Hid (odl A ro L t = false → Kd wr w lb cb hb n ro (fun v => if v < j + 1 then (if odl A ro L (ro v).toNat = true then 2 else A v) else A v) (fun t => odl A ro L t)) := fun ho => HD.out.extc (fun v _ => by
                    by_cases e : v = j
                    · subst e; rw [if_neg (show ¬ v < v by omega), if_pos (show v < v + 1 by omega), htt, if_neg (by rw [ho]; simp)]
                    · by_cases e2 : v < j
                      · rw [if_pos e2, if_pos (show v < j + 1 by omega)]
                      · rw [if_neg e2, if_neg (show ¬ v < j + 1 by omega)])
                  clear HD hp htt ht
                  cases ho : odl A ro L t with
                  | true =>
                    have HD4 := hide (HD2.out ho)
                    rw [ho] at ch
                    clear HD2 HD3 ho
                    go_wp2
                    all_goals exact ⟨⟨j + 1, cc, by go_num, HD4⟩, by simp [intOf]; omega⟩
                  | false =>
                    have HD4 := hide (HD3.out ho)
                    rw [ho] at ch
                    clear HD2 HD3 ho
                    go_wp2
                    all_goals exact ⟨⟨j + 1, cc, by go_num, HD4⟩, by simp [intOf]; omega⟩
                · have hjn : n = j := by omega
                  subst hjn
                  have HEnd : Hid (GU wr cb n (fun v => if odl A ro L (ro v).toNat = true then 2 else A v) ∧ (∀ U2 r, Fo (2 * n) (dbl n L) U2 r → ∀ v, v < n → (if odl A ro L (ro v).toNat = true then 2 else A v) = col n r v) ∧ w.heap.size ≤ cb ∧ Below w.heap.size w wr) := ⟨HD.out.k.c.ext (fun v hv => by rw [if_pos hv]), fun U2 r h2 v hv => (col_eq HI.out HFo.out HCf.out.1 HCf.out.2 h2 v hv).symm, HNe.out.2.1, HD.out.k.b⟩
                  clear HD
                  go_wp2
                  all_goals go_ret
                  all_goals exact ⟨cb, _, rfl, HEnd.out⟩
end Au
end Go.Proofs.Ytcepfmeoeepjdaa
