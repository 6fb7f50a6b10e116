import Derived.Test.YtcepfmeoeepjdabAyN
namespace Go.Proofs.Ytcepfmeoeepjdab
namespace Au
open Go.RowKit
set_option linter.unusedVariables false
set_option maxRecDepth 8000
theorem res21 (T : Array Value) (b : Nat) (a c d : Value) (W : World) (h10 : T[10]? = some (.pointer (some ⟨b, 0, none⟩))) (h : W.heap[b]? = some (.cells #[a, c, d] 35 (0, 0))) :
    (results Try.f21 T).run Try.prog W = .ok (.agg #[a, c, d]) W := by
  have h0 : W.cell? ⟨b, 0, none⟩ = some a := (cell_of_row _ _ _ _ _ _ h).trans rfl
  have h1 : W.cell? ⟨b, 1, none⟩ = some c := (cell_of_row _ _ _ _ _ _ h).trans rfl
  have h2 : W.cell? ⟨b, 2, none⟩ = some d := (cell_of_row _ _ _ _ _ _ h).trans rfl
  simp [results, Try.f21, go_sem, h10, h0, h1, h2]
abbrev S16 (fb g n : Nat) (p q : Addr) (s t : Int) (w : World) : Prop := w.cell? ⟨fb, 0, none⟩ = some (.slice (some ⟨g, 0, none⟩) n n) ∧ w.cell? p = some (.int .u64 s) ∧ w.cell? q = some (.int .u64 t)
abbrev S17 (p q : Addr) (s t : Int) (w : World) : Prop := w.cell? p = some (.int .u64 s) ∧ w.cell? q = some (.int .u64 t)
abbrev S37 (fb g n hk v : Nat) (h : Bool) (w : World) : Prop := w.cell? ⟨fb, 0, none⟩ = some (.slice (some ⟨g, 0, none⟩) n n) ∧ w.cell? ⟨hk, v, none⟩ = some (.bool h)
abbrev S38 (fb g n hk lk xb v : Nat) (h : Bool) (s l : Int) (w : World) : Prop := w.cell? ⟨fb, 0, none⟩ = some (.slice (some ⟨g, 0, none⟩) n n) ∧ w.cell? ⟨hk, v, none⟩ = some (.bool h) ∧ w.cell? ⟨xb, 1, none⟩ = some (.int .u64 s) ∧ w.cell? ⟨lk, v, none⟩ = some (.int .u64 l)
/-- What stands beside the faults. -/
def Zt (W w : World) (g fb tb hk lk n : Nat) (G : Nat → Int) (T H : Nat → Bool) (F : Nat → Int) : Prop := Zs W w g fb n G ∧ GH W tb n T ∧ GH W hk n H ∧ GU W lk n F
theorem Zt.on {W W' w : World} {g fb tb hk lk n : Nat} {G : Nat → Int} {T H : Nat → Bool} {F : Nat → Int} (h : Zt W w g fb tb hk lk n G T H F) (hb : Below W.heap.size W W') : Zt W' w g fb tb hk lk n G T H F := ⟨h.1.on hb, h.2.1.on hb, h.2.2.1.on hb, h.2.2.2.on hb⟩
theorem Zt.ne {W w : World} {g fb tb hk lk n : Nat} {G : Nat → Int} {T H : Nat → Bool} {F : Nat → Int} (h : Zt W w g fb tb hk lk n G T H F) : tb ≠ g ∧ hk ≠ g ∧ lk ≠ g ∧ hk ≠ lk ∧ tb ≠ lk := by
  obtain ⟨⟨_, _, ⟨Q, q, _⟩, _⟩, ⟨Q1, q1, _⟩, ⟨Q2, q2, _⟩, ⟨Q3, q3, _⟩⟩ := h
  refine ⟨fun e => ?_, fun e => ?_, fun e => ?_, fun e => ?_, fun e => ?_⟩
  · rw [e, q] at q1; simp at q1
  · rw [e, q] at q2; simp at q2
  · rw [e, q] at q3; simp at q3
  · rw [e, q3] at q2; simp at q2
  · rw [e, q3] at q1; simp at q1
theorem Zt.ch {W W' w : World} {g fb tb hk lk n : Nat} {G G' : Nat → Int} {T H : Nat → Bool} {F : Nat → Int} (h : Zt W w g fb tb hk lk n G T H F) (hc : Ch (fun k => k = g) W W') (hG : GI W' g n G') (h1 : w.heap.size < g) (h2 : fb ≠ g) : Zt W' w g fb tb hk lk n G' T H F :=
  ⟨h.1.ch hc hG h1 h2, h.2.1.of (hc.block _ h.2.1.lt h.ne.1), h.2.2.1.of (hc.block _ h.2.2.1.lt h.ne.2.1), h.2.2.2.of (hc.block _ h.2.2.2.lt h.ne.2.2.1)⟩
def fq (S : Nat → Nat → Int) (near : Bool) : Nat → Int := fun u => if near = true then S u 1 else (u : Int)
set_option maxHeartbeats 16000000 in
theorem rspread_any (n ec sc uc : Nat) (a sa ua : Option Addr) (near : Bool) (Q : List Nat) (L : List T3) (S : Nat → Nat → Int) (hsr : ∀ v, v < n → ∀ i, i < 8 → 0 ≤ S v i ∧ S v i < 18446744073709551616) (hn0 : 0 < n) (hn : n ≤ 5000) (hlen : L.length ≤ 140737488351232) (hql : Q.length ≤ 140737488351232) (w : World) (hE : Row3 .u32 w a L) (hS : Row8 w sa n S) (hI : ∀ e ∈ L, e.1 < n ∧ e.2.1 < n) (hua : Row1 w ua Q) (hqn : ∀ q ∈ Q, q < n) :
    Calls Try.prog 21 #[.int .u32 (n : Int), .slice ua Q.length uc, .bool near, .slice a L.length ec, .slice sa n sc] w fun e w' => ∃ o, e = .returned (.agg #[.bool (vR o), .int .u32 (vV o), .int .i64 (vK o)]) ∧ Lm (PS S n (fq S near) Q L) o ∧ Below w.heap.size w w' := by
  obtain ⟨ax, rfl, hAt⟩ := hS hn0
  have HAt : Hid (∀ W, Below w.heap.size w W → ∀ u, u < n → W.cell? (ax.add (u * 8)) = some (.int .u64 (S u 0)) ∧ W.cell? ⟨(ax.add (u * 8)).block, (ax.add (u * 8)).off + 1, none⟩ = some (.int .u64 (S u 1)) ∧ K8i ax u (S u) W) := fun W hW u hu => by
    have hA : At8 W ax n S := ⟨Nat.lt_of_lt_of_le hAt.1 hW.size, fun v hv i hi => (hW.cell (p := ax.add (v * 8 + i)) (by rw [add_block]; exact hAt.1)).trans (hAt.2 v hv i hi)⟩
    have h := hA.k u hu
    exact ⟨h.1, h.2.1, h⟩
  have HAx : Hid (ax.block < w.heap.size) := hAt.1
  have hcv : IntKind.i64.wrap (n : Int) = n := i64w _ (by omega)
  have hcu : IntKind.u64.wrap (n : Int) = n := wu _ (by omega) (by omega)
  have HSR := hide hsr
  have HI := hide hI
  have HE := hide hE
  have HUa := hide hua
  have HQn := hide hqn
  obtain ⟨w0, hw0⟩ : ∃ w0, w.alloc (.cells z3 35) = w0 := ⟨_, rfl⟩
  have hB0 : Below w.heap.size w w0 := by rw [← hw0]; exact b1 _ _ _
  have hz0 : w0.heap[w.heap.size]? = some (.cells z3 35 (0, 0)) := by rw [← hw0]; exact at0 _ _
  have HBg := hide (begin_any n hn w0)
  have HW0 := hide hw0
  have HZ0 := hide hz0
  have HB0 := hide hB0
  clear hE hS hI hw0 hz0 hB0 hsr hAt hua hqn
  go_enter Try.func21, Try.ntmps21
  go_wp2_with (fail)
  rw [HW0.out]
  refine HBg.out.mono ?_
  rintro e1 w1 ⟨g, rfl, hg, hGI, hB1⟩
  obtain ⟨w2, hw2⟩ : ∃ w2, w1.alloc (.cells #[.slice (some ⟨g, 0, none⟩) n n] 79) = w2 := ⟨_, rfl⟩
  have hB2 : Below w1.heap.size w1 w2 := by rw [← hw2]; exact b1 _ _ _
  have hZ2 : Zs w2 w g w1.heap.size n (fun _ => 0) := by
    refine ⟨(hB2.block _ (Nat.lt_of_lt_of_le (lt_of_some HZ0.out) hB1.size)).trans ((hB1.block _ (lt_of_some HZ0.out)).trans HZ0.out), ?_, hGI.of (hB2.block _ hGI.lt), (HB0.out.trans (hB1.mono HB0.out.size)).trans (hB2.mono (Nat.le_trans HB0.out.size hB1.size))⟩
    rw [← hw2]; exact Boxed.new w1 _ _
  have HNe : Hid (w.heap.size < g ∧ g < w1.heap.size) := ⟨by have := lt_of_some HZ0.out; omega, hGI.lt⟩
  obtain ⟨fb, hfbe⟩ : ∃ fb, fb = w1.heap.size := ⟨_, rfl⟩
  have hmk := make_bool w2 n (by omega)
  have hT0 := GH.new w2 n
  obtain ⟨w3, hw3⟩ : ∃ w3, w2.alloc (.cells (madeCells #[.bool false] n) 4) = w3 := ⟨_, rfl⟩
  rw [hw3] at hmk hT0
  have hB3 : Below w2.heap.size w2 w3 := by rw [← hw3]; exact b1 _ _ _
  have hs2 : w2.heap.size = fb + 1 := by rw [hfbe, ← hw2]; simp
  have hs3 : w3.heap.size = fb + 2 := by rw [← hw3]; simp [hs2]
  rw [← hfbe] at hZ2 HNe
  have HZ3 := hide (hZ2.on hB3)
  rw [hs2] at hmk hT0
  have HT3 : Hid (GH w3 (fb + 1) n (fun v => decide (v ∈ Q.take 0))) := by
    obtain ⟨X, x1, x2⟩ := hT0
    exact ⟨X, x1, fun v hv => by rw [x2 v hv]; simp⟩
  have HS3 : Hid (w3.heap.size = fb + 2) := hs3
  have HW2 := hide hw2
  rw [← hw2] at hmk
  have Hfbe := hide hfbe
  clear hB1 hB2 hGI hw2 HBg HZ0 HB0 HW0 hB3 hw3 hT0 hs2 hs3 hZ2 hfbe
  go_wp2_with (fail)
  rw [← Hfbe.out]
  clear hmk
  go_loopw [13] (fun v wr => ∃ i : Nat, i ≤ Q.length ∧ v = .int .i64 i ∧ Hid (GH wr (fb + 1) n (fun v => decide (v ∈ Q.take i))) ∧ Hid (Zs wr w g fb n (fun _ => 0)) ∧ Hid (wr.heap.size = fb + 2)) (fun v _ => Q.length - (intOf v).toNat)
  case atStart => exact ⟨0, Nat.zero_le _, rfl, HT3, HZ3, HS3⟩
  case round =>
    clear HT3 HZ3 HS3
    obtain ⟨i, hi, rfl, HT, HZ, HSz⟩ := hrel
    by_cases cc : i < Q.length
    · have hcc : (i : Int) < (Q.length : Int) := by omega
      obtain ⟨q, hq⟩ : ∃ q, Q[i]? = some q := ⟨Q[i], List.getElem?_eq_getElem cc⟩
      obtain ⟨ux, rfl, hux, hcx⟩ := HUa.out (by omega)
      have hqn := HQn.out q (List.mem_of_getElem? hq)
      have c1 : wr.cell? (ux.add i) = some (.int .u32 (q : Int)) := (HZ.out.2.2.2.cell (p := ux.add i) (by rw [add_block]; exact hux)).trans (hcx i q hq)
      have c2 := HT.out.cell q hqn
      have c3 := HT.out.fz q
      have hqi : (q : Int) < (n : Int) := by omega
      obtain ⟨X, hX⟩ := (HT.out.set q true).2
      have HT1 : Hid (GH (wr.setCell ⟨fb + 1, q, none⟩ (.bool true)) (fb + 1) n (fun v => decide (v ∈ Q.take (i + 1)))) := by
        obtain ⟨Y, y1, y2⟩ := (HT.out.set q true).1
        refine ⟨Y, y1, fun v hv => ?_⟩
        rw [y2 v hv, List.take_add_one, hq]
        dsimp only
        by_cases e : v = q
        · subst e; simp
        · simp [e]
      have HZ1 : Hid (Zs (wr.setCell ⟨fb + 1, q, none⟩ (.bool true)) w g fb n (fun _ => 0)) := by
        obtain ⟨z1, z2, z3, z4⟩ := HZ.out
        have hz4 := z4.size
        have hg9 := HNe.out
        rw [hX]
        exact ⟨(setRow_other _ _ _ _ (by omega)).trans z1, (setRow_other _ _ _ _ (by omega)).trans z2, z3.of (setRow_other _ _ _ _ (by omega)), below_setRow z4 (by omega) _⟩
      have HSz1 : Hid ((wr.setCell ⟨fb + 1, q, none⟩ (.bool true)).heap.size = fb + 2) := by
        show _ = _
        rw [hX]; simp; exact HSz.out
      clear hcx hq HT HZ HSz hX
      go_wp2
      all_goals exact ⟨⟨i + 1, cc, by go_num, HT1, HZ1, HSz1⟩, by simp [intOf]; omega⟩
    · have hie : i = Q.length := by omega
      subst hie
      rw [List.take_length] at HT
      clear cc hi
      have hmk1 := make_bool wr n (by omega)
      have hH0 := GH.new wr n
      obtain ⟨w4, hw4⟩ : ∃ w4, wr.alloc (.cells (madeCells #[.bool false] n) 4) = w4 := ⟨_, rfl⟩
      rw [hw4] at hmk1 hH0
      have hs4 : w4.heap.size = fb + 3 := by rw [← hw4]; simp [HSz.out]
      have hmk2 := make_u32 w4 n (by omega)
      have hL0 := GU.new w4 n
      obtain ⟨w5, hw5⟩ : ∃ w5, w4.alloc (.cells (madeCells #[.int .u64 0] n) 28) = w5 := ⟨_, rfl⟩
      rw [hw5] at hmk2 hL0
      have hB4 : Below wr.heap.size wr w4 := by rw [← hw4]; exact b1 _ _ _
      have hB5 : Below w4.heap.size w4 w5 := by rw [← hw5]; exact b1 _ _ _
      rw [HSz.out] at hmk1 hH0
      rw [hs4] at hmk2 hL0
      have HZ5 : Hid (Zt w5 w g fb (fb + 1) (fb + 2) (fb + 3) n (fun _ => 0) (fun v => decide (v ∈ Q)) (mt S n (L.take 0)) (fun _ => 0)) := by
        refine ⟨(HZ.out.on hB4).on hB5, (HT.out.on hB4).on hB5, ?_, hL0⟩
        obtain ⟨X, x1, x2⟩ := hH0.on hB5
        exact ⟨X, x1, fun v hv => by rw [x2 v hv]; rfl⟩
      have HTF : Hid (fb + 1 ≠ fb + 2) := by show _ ≠ _; omega
      clear hw4 hs4 hH0 hw5 hL0 hB4 hB5 HT HZ HSz
      go_wp2_with (fail)
      clear hmk1 hmk2
      obtain ⟨tb, htb⟩ : ∃ tb, tb = fb + 1 := ⟨_, rfl⟩
      obtain ⟨hk, hhk⟩ : ∃ hk, hk = fb + 2 := ⟨_, rfl⟩
      obtain ⟨lk, hlk⟩ : ∃ lk, lk = fb + 3 := ⟨_, rfl⟩
      rw [← htb, ← hhk] at HTF
      rw [← htb, ← hhk, ← hlk] at HZ5 ⊢
      have HFb : Hid (fb < tb ∧ fb < hk ∧ fb < lk) := ⟨by omega, by omega, by omega⟩
      clear htb hhk hlk
      go_loopw [17] (fun v wr => ∃ (i : Nat) (G : Nat → Int) (F : Nat → Int), i ≤ L.length ∧ v = .int .i64 i ∧ Hid (Rl (fun v r => r = 2 ∧ v < n ∧ ov S n (L.take i) v = true) n G) ∧ Hid (Zt wr w g fb tb hk lk n G (fun v => decide (v ∈ Q)) (mt S n (L.take i)) F) ∧ Hid (∀ v, v < n → mt S n (L.take i) v = true → F v = lst S n (fq S near) (L.take i) v)) (fun v _ => L.length - (intOf v).toNat)
      case atStart => exact ⟨0, _, _, Nat.zero_le _, rfl, (Rl.zero n).ext (fun v r _ => ⟨fun h => h.elim, fun h => by simp [ov] at h⟩), HZ5, fun v _ h => by simp [mt] at h⟩
      case round =>
        clear HZ5
        obtain ⟨i, G, F, hi, rfl, HR, HZ, HF⟩ := hrel
        by_cases ci : i < L.length
        · have hci : (i : Int) < (L.length : Int) := by omega
          obtain ⟨eb, rfl, heb, hce⟩ := HE.out (by omega)
          obtain ⟨⟨x, y, z⟩, hxyz⟩ : ∃ e, L[i]? = some e := ⟨L[i]'(by omega), List.getElem?_eq_getElem (by omega)⟩
          obtain ⟨hxn, hyn⟩ := HI.out _ (List.mem_of_getElem? hxyz)
          simp only at hxn hyn
          obtain ⟨c1, c2, _⟩ := cells3 (hce i _ hxyz)
          simp only at c1 c2
          have hBw := HZ.out.1.2.2.2
          have d1 : wr.cell? (eb.add (i * 3)) = some (.int .u32 (x : Int)) := (hBw.cell (p := eb.add (i * 3)) (by rw [add_block]; exact heb)).trans c1
          have d2 : wr.cell? ⟨(eb.add (i * 3)).block, (eb.add (i * 3)).off + 1, none⟩ = some (.int .u32 (y : Int)) := (hBw.cell (p := ⟨(eb.add (i * 3)).block, (eb.add (i * 3)).off + 1, none⟩) (by rw [show (⟨(eb.add (i * 3)).block, (eb.add (i * 3)).off + 1, none⟩ : Addr).block = eb.block from add_block _ _]; exact heb)).trans c2
          have hsx := HSR.out x hxn 0 (by decide)
          have hsy := HSR.out y hyn 0 (by decide)
          have q1 := (HAt.out wr hBw x hxn).1
          obtain ⟨p, hp⟩ : ∃ p, S x 0 = p := ⟨_, rfl⟩
          obtain ⟨q, hq⟩ : ∃ q, S y 0 = q := ⟨_, rfl⟩
          rw [hp] at hsx q1
          rw [hq] at hsy
          have htk := take_succ hxyz
          have HOv : Hid (∀ v, ov S n (L.take (i + 1)) v = (ov S n (L.take i) v || (y == v && decide (p < (n : Int)) && decide (p + 1 < q)))) := fun v => by
            rw [htk, ov_app]
            unfold ovE
            by_cases ev : y = v
            · subst ev; rw [hp, hq]
            · have h9 : (y == v) = false := by simpa using ev
              simp only [h9, Bool.false_and]
          have HMt : Hid (∀ v, mt S n (L.take (i + 1)) v = (mt S n (L.take i) v || (y == v && decide (p < (n : Int)) && q == p + 1))) := fun v => by
            rw [htk, mt_app]
            unfold mtE
            by_cases ev : y = v
            · subst ev; rw [hp, hq]
            · have h9 : (y == v) = false := by simpa using ev
              simp only [h9, Bool.false_and]
          have HLs : Hid (∀ v, lst S n (fq S near) (L.take (i + 1)) v = if (y == v && decide (p < (n : Int)) && q == p + 1) = true then min (lst S n (fq S near) (L.take i) v) (fq S near x) else lst S n (fq S near) (L.take i) v) := fun v => by
            rw [htk, lst_app]
            unfold lsE mtE
            by_cases ev : y = v
            · subst ev; rw [hp, hq]
            · have h9 : (y == v) = false := by simpa using ev
              simp only [h9, Bool.false_and]
          have HSk : Hid ((∀ v, (y == v && decide (p < (n : Int)) && q == p + 1) = false) → Zt wr w g fb tb hk lk n G (fun v => decide (v ∈ Q)) (mt S n (L.take i)) F → ∀ W G', Zt W w g fb tb hk lk n G' (fun v => decide (v ∈ Q)) (mt S n (L.take i)) F → Zt W w g fb tb hk lk n G' (fun v => decide (v ∈ Q)) (mt S n (L.take (i + 1))) F ∧ ∀ v, v < n → mt S n (L.take (i + 1)) v = true → F v = lst S n (fq S near) (L.take (i + 1)) v) := fun hh _ W G' hZ => by
            have e1 : mt S n (L.take (i + 1)) = mt S n (L.take i) := funext fun v => by rw [HMt.out v, hh v, Bool.or_false]
            rw [e1]
            exact ⟨hZ, fun v hv h9 => by rw [HLs.out v, hh v]; exact HF.out v hv h9⟩
          clear c1 c2 hce heb hxyz hi htk
          by_cases h1 : (n : Int) ≤ p
          · have h1n : ¬ p < (n : Int) := by omega
            have HR1 : Hid (Rl (fun v r => r = 2 ∧ v < n ∧ ov S n (L.take (i + 1)) v = true) n G) := HR.out.ext (fun v r _ => by rw [HOv.out v]; simp [h1n])
            have HZ1 := hide (HSk.out (fun v => by simp [h1n]) HZ.out wr G HZ.out)
            clear HR HZ HF HOv HMt HLs HSk hBw
            go_wp2
            all_goals exact ⟨⟨i + 1, G, F, ci, by go_num, HR1, HZ1.out.1, HZ1.out.2⟩, by simp [intOf]; omega⟩
          · have h1n : p < (n : Int) := by omega
            have hwp : IntKind.u64.wrap (p + 1) = p + 1 := wu _ (by omega) (by omega)
            have hyi : IntKind.i64.wrap (y : Int) = y := i64w _ (by omega)
            have HN : Hid (∀ W G (r : Nat) β, GI W g n G → Calls Try.prog 38 #[.agg #[.slice (some ⟨g, 0, none⟩) n n], .int .i64 (y : Int), .int .i64 (r : Int), .bool β] W fun e w' => (∃ x, e = .returned x) ∧ GI w' g n (nx G y r β) ∧ Ch (fun j => j = g) W w') := fun W G r β hG => fnote_any g n y r β G hyn hn W hG
            have HG0 := hide HZ.out.1.2.2.1
            have HC0 : Hid (Ch (fun j => j = g) wr wr) := Ch.refl _ _
            have hax := HAx.out
            have hne := HNe.out
            have HK : Hid (∀ W, Ch (fun j => j = g) wr W → S16 fb g n (ax.add (y * 8)) (ax.add (x * 8)) q p W) := fun W hW => by
              have hbs := hBw.size
              have k1 := (HAt.out wr hBw y hyn).1
              have k2 := (HAt.out wr hBw x hxn).1
              rw [hq] at k1
              rw [hp] at k2
              exact ⟨(hW.cell (p := ⟨fb, 0, none⟩) HZ.out.1.2.1.lt (by show fb ≠ g; omega)).trans HZ.out.1.2.1.cell, (hW.cell (p := ax.add (y * 8)) (by rw [add_block]; omega) (by rw [add_block]; omega)).trans k1, (hW.cell (p := ax.add (x * 8)) (by rw [add_block]; omega) (by rw [add_block]; omega)).trans k2⟩
            have HRn : Hid (Rl (fun v r => r = 2 ∧ v < n ∧ ov S n (L.take (i + 1)) v = true) n (nx G y 2 (decide (p + 1 < q)))) := (HR.out.note y 2 (decide (p + 1 < q)) (by omega)).ext (fun v r hv => by
              rw [HOv.out v]
              simp only [h1n, decide_true, Bool.and_true, Bool.or_eq_true, Bool.and_eq_true, beq_iff_eq]
              constructor
              · rintro (⟨x1, x2, x3⟩ | ⟨x1, x2, x3⟩)
                · exact ⟨x1, x2, .inl x3⟩
                · exact ⟨x3, hv, .inr ⟨x2.symm, x1⟩⟩
              · rintro ⟨x1, x2, x3 | x3⟩
                · exact .inl ⟨x1, x2, x3⟩
                · exact .inr ⟨x3.2, x3.1.symm, x1⟩)
            have hxs : x < n := hxn
            go_wp2_with (fail)
            go_region_held3 (S16 fb g n (ax.add (y * 8)) (ax.add (x * 8)) q p) ((first | with_reducible exact HK.out _ (Ch.drew HC0.out) | with_reducible exact HK.out _ HC3.out)) ((first | (go_at_call 38; refine (HN.out wr.drew _ 2 _ (HG0.out.of rfl)).mono ?_; rintro e3 w3 ⟨⟨x3, rfl⟩, hG3, hC3⟩; have HG3 := hide hG3; have HC3 : Hid (Ch (fun j => j = g) wr w3) := HC0.out.drew.trans hC3; clear hG3 hC3)))
            have HZ3 := hide (HZ.out.ch HC3.out HG3.out HNe.out.1 (by have := HNe.out; omega))
            have HK7 : Hid (S17 (ax.add (y * 8)) (ax.add (x * 8)) q p w3.drew) := ⟨(HK.out _ HC3.out).2.1, (HK.out _ HC3.out).2.2⟩
            have hB3 := HZ3.out.1.2.2.2
            obtain ⟨t1, t2, _⟩ := HAt.out w3 hB3 x hxn
            have HX1 : Hid (w3.drew.cell? ⟨(ax.add (x * 8)).block, (ax.add (x * 8)).off + 1, none⟩ = some (.int .u64 (S x 1))) := t2
            clear HN HG0 HC0 HK HG3 q1 t1 t2
            cases h3 : (q != p + 1) with
            | true =>
              have HZ4 := hide (HSk.out (fun v => by simp at h3; simp [h3]) HZ.out w3.drew _ (HZ3.out.on (belowD (Below.refl _ _))))
              clear HR HZ HF HOv HMt HLs HSk hBw HC3 HZ3 hB3
              go_wp2_with (fail)
              go_region_held3 (S17 (ax.add (y * 8)) (ax.add (x * 8)) q p) ((with_reducible exact HK7.out)) ((fail))
              clear HK7
              go_wp2
              all_goals exact ⟨⟨i + 1, _, F, ci, by go_num, HRn, HZ4.out.1, HZ4.out.2⟩, by simp [intOf]; omega⟩
            | false =>
              have h3e : q = p + 1 := by simpa using h3
              have hxu : IntKind.u64.wrap (x : Int) = x := wu _ (by omega) (by omega)
              obtain ⟨T, hT⟩ : ∃ T, fq S near x = T := ⟨_, rfl⟩
              have hd3 : w3.drew.cell? ⟨hk, y, none⟩ = some (.bool (mt S n (L.take i) y)) := HZ3.out.2.2.1.cell y hyn
              have hf3 : w3.drew.frozen? ⟨hk, y, none⟩ = false := HZ3.out.2.2.1.fz y
              have hl3 : w3.drew.cell? ⟨lk, y, none⟩ = some (.int .u64 (F y)) := HZ3.out.2.2.2.cell y hyn
              have hlf3 : w3.drew.frozen? ⟨lk, y, none⟩ = false := HZ3.out.2.2.2.fz y
              have HNk := hide HZ.out.ne
              have HMy : Hid (∀ v, mt S n (L.take (i + 1)) v = if v = y then true else mt S n (L.take i) v) := fun v => by
                rw [HMt.out v]
                by_cases ev : v = y
                · subst ev; simp [h1n, h3e]
                · have h9 : (y == v) = false := by simpa using fun e => ev e.symm
                  rw [h9, if_neg ev]; simp
              have HLy : Hid (∀ v, lst S n (fq S near) (L.take (i + 1)) v = if v = y then min (lst S n (fq S near) (L.take i) y) T else lst S n (fq S near) (L.take i) v) := fun v => by
                rw [HLs.out v, hT]
                by_cases ev : v = y
                · subst ev; simp [h1n, h3e]
                · have h9 : (y == v) = false := by simpa using fun e => ev e.symm
                  rw [h9, if_neg ev]; simp
              have hTb : T ≤ NN := by
                rw [← hT]
                unfold fq
                split
                · have := HSR.out x hxn 1 (by decide); show _ ≤ (18446744073709551615 : Int); omega
                · show _ ≤ (18446744073709551615 : Int); omega
              have HFin : Hid (∀ c : Int, (mt S n (L.take i) y = false → c = T) → (mt S n (L.take i) y = true → c = min (F y) T) → ∀ W, (W = ((w3.setCell ⟨lk, y, none⟩ (.int .u64 c)).setCell ⟨hk, y, none⟩ (.bool true)).drew ∨ (c = F y ∧ W = (w3.setCell ⟨hk, y, none⟩ (.bool true)).drew)) → Zt W w g fb tb hk lk n (nx G y 2 (decide (p + 1 < q))) (fun v => decide (v ∈ Q)) (mt S n (L.take (i + 1))) (up F y c) ∧ ∀ v, v < n → mt S n (L.take (i + 1)) v = true → up F y c v = lst S n (fq S near) (L.take (i + 1)) v) := fun c hc0 hc1 W hW => by
                obtain ⟨n1, n2, n3, n4, n5⟩ := HNk.out
                have hz := HZ3.out
                have hfb := HFb.out
                have hng := HNe.out
                have htf := HTF.out
                have key : Zt W w g fb tb hk lk n (nx G y 2 (decide (p + 1 < q))) (fun v => decide (v ∈ Q)) (mt S n (L.take (i + 1))) (up F y c) := by
                  obtain ⟨⟨z1, z2, z3, z4⟩, zT, zH, zL⟩ := hz
                  have z4s := z4.size
                  have hgl := z3.lt
                  have hH : ∀ V : World, GH V hk n (mt S n (L.take i)) → GH (V.setCell ⟨hk, y, none⟩ (.bool true)) hk n (mt S n (L.take (i + 1))) := fun V hV => by
                    obtain ⟨Y, y1, y2⟩ := (hV.set y true).1
                    exact ⟨Y, y1, fun v hv => by rw [y2 v hv, HMy.out v]⟩
                  rcases hW with rfl | ⟨rfl, rfl⟩
                  all_goals refine Zt.on ?_ (belowD (Below.refl _ _))
                  · have hc9 : Ch (fun k => k = lk ∨ k = hk) w3 ((w3.setCell ⟨lk, y, none⟩ (.int .u64 c)).setCell ⟨hk, y, none⟩ (.bool true)) := ((Ch.refl _ _).set _ _ (Or.inl (Or.inl rfl))).set _ _ (Or.inl (Or.inr rfl))
                    refine ⟨⟨(hc9.block _ (lt_of_some z1) (by omega)).trans z1, (hc9.block _ z2.lt (by omega)).trans z2, z3.of (hc9.block _ z3.lt (by omega)), z4.trans (hc9.below (fun k hk9 e => by omega) z4.size)⟩, zT.of (hc9.block _ zT.lt (by omega)), hH _ (zH.of (Below.heap_setCell _ _ _ _ n4)), ((zL.set y c).1).of (Below.heap_setCell _ _ _ _ (fun e => n4 e.symm))⟩
                  · have hc9 : Ch (fun k => k = hk) w3 (w3.setCell ⟨hk, y, none⟩ (.bool true)) := (Ch.refl _ _).set _ _ (Or.inl rfl)
                    refine ⟨⟨(hc9.block _ (lt_of_some z1) (by omega)).trans z1, (hc9.block _ z2.lt (by omega)).trans z2, z3.of (hc9.block _ z3.lt (by omega)), z4.trans (hc9.below (fun k hk9 e => by omega) z4.size)⟩, zT.of (hc9.block _ zT.lt (by omega)), hH _ zH, (zL.of (Below.heap_setCell _ _ _ _ (fun e => n4 e.symm))).ext (fun v hv => ?_)⟩
                    by_cases ev : v = y
                    · subst ev; rw [up_eq]
                    · rw [up_ne _ _ _ _ ev]
                refine ⟨key, fun v hv h9 => ?_⟩
                rw [HLy.out v]
                by_cases ev : v = y
                · subst ev
                  rw [up_eq, if_pos rfl]
                  cases hm9 : mt S n (L.take i) v with
                  | false => rw [hc0 hm9, lst_none _ _ _ _ _ hm9]; omega
                  | true => rw [hc1 hm9, HF.out v hv hm9]
                · rw [up_ne _ _ _ _ ev, if_neg ev]
                  rw [HMy.out v, if_neg ev] at h9
                  exact HF.out v hv h9
              have HF4 : Hid (∀ c : Int, (w3.setCell ⟨lk, y, none⟩ (.int .u64 c)).drew.cell? ⟨hk, y, none⟩ = some (.bool (mt S n (L.take i) y)) ∧ (w3.setCell ⟨lk, y, none⟩ (.int .u64 c)).drew.frozen? ⟨hk, y, none⟩ = false) := fun c => by
                have hV : GH (w3.setCell ⟨lk, y, none⟩ (.int .u64 c)) hk n (mt S n (L.take i)) := HZ3.out.2.2.1.of (Below.heap_setCell _ _ _ _ HNk.out.2.2.2.1)
                exact ⟨hV.cell y hyn, hV.fz y⟩
              have HTs : Hid ((near = true → S x 1 = T) ∧ (near = false → (x : Int) = T)) := by
                refine ⟨fun h => ?_, fun h => ?_⟩ <;> (rw [← hT]; unfold fq; rw [h]; rfl)
              clear HR HZ HF HOv HMt HLs HSk hBw HC3 HZ3 hB3 HMy HLy HNk hT h3e hTb
              have tx := HX1.out
              cases near with
              | true =>
                rw [HTs.out.1 rfl] at tx
                clear HTs HX1
                cases hm : mt S n (L.take i) y with
                | false =>
                  rw [hm] at hd3
                  have HE9 := hide (HFin.out T (fun _ => rfl) (fun h => by rw [hm] at h; cases h) _ (Or.inl rfl))
                  obtain ⟨k4, f4⟩ := HF4.out T
                  clear HFin HF4
                  go_wp2_with (fail)
                  go_region_held3 (S17 (ax.add (y * 8)) (ax.add (x * 8)) q p) ((with_reducible exact HK7.out)) ((fail))
                  clear HK7
                  go_wp2
                  all_goals exact ⟨⟨i + 1, _, _, ci, by go_num, HRn, HE9.out.1, HE9.out.2⟩, by simp [intOf]; omega⟩
                | true =>
                  rw [hm] at hd3
                  by_cases hlt : T < F y
                  · have HE9 := hide (HFin.out T (fun _ => rfl) (fun _ => by omega) _ (Or.inl rfl))
                    obtain ⟨k4, f4⟩ := HF4.out T
                    clear HFin HF4
                    go_wp2_with (fail)
                    go_region_held3 (S17 (ax.add (y * 8)) (ax.add (x * 8)) q p) ((with_reducible exact HK7.out)) ((fail))
                    clear HK7
                    go_wp2
                    all_goals exact ⟨⟨i + 1, _, _, ci, by go_num, HRn, HE9.out.1, HE9.out.2⟩, by simp [intOf]; omega⟩
                  · have HE9 := hide (HFin.out (F y) (fun h => by rw [hm] at h; cases h) (fun _ => by omega) _ (Or.inr ⟨rfl, rfl⟩))
                    clear HFin HF4
                    go_wp2_with (fail)
                    go_region_held3 (S17 (ax.add (y * 8)) (ax.add (x * 8)) q p) ((with_reducible exact HK7.out)) ((fail))
                    clear HK7
                    go_wp2
                    all_goals exact ⟨⟨i + 1, _, _, ci, by go_num, HRn, HE9.out.1, HE9.out.2⟩, by simp [intOf]; omega⟩
              | false =>
                have hxT := HTs.out.2 rfl
                clear HTs HX1 tx
                rw [← hxT] at HFin
                clear hxT
                cases hm : mt S n (L.take i) y with
                | false =>
                  rw [hm] at hd3
                  have HE9 := hide (HFin.out (x : Int) (fun _ => rfl) (fun h => by rw [hm] at h; cases h) _ (Or.inl rfl))
                  obtain ⟨k4, f4⟩ := HF4.out (x : Int)
                  clear HFin HF4
                  go_wp2_with (fail)
                  go_region_held3 (S17 (ax.add (y * 8)) (ax.add (x * 8)) q p) ((with_reducible exact HK7.out)) ((fail))
                  clear HK7
                  go_wp2
                  all_goals exact ⟨⟨i + 1, _, _, ci, by go_num, HRn, HE9.out.1, HE9.out.2⟩, by simp [intOf]; omega⟩
                | true =>
                  rw [hm] at hd3
                  by_cases hlt : (x : Int) < F y
                  · have HE9 := hide (HFin.out (x : Int) (fun _ => rfl) (fun _ => by omega) _ (Or.inl rfl))
                    obtain ⟨k4, f4⟩ := HF4.out (x : Int)
                    clear HFin HF4
                    go_wp2_with (fail)
                    go_region_held3 (S17 (ax.add (y * 8)) (ax.add (x * 8)) q p) ((with_reducible exact HK7.out)) ((fail))
                    clear HK7
                    go_wp2
                    all_goals exact ⟨⟨i + 1, _, _, ci, by go_num, HRn, HE9.out.1, HE9.out.2⟩, by simp [intOf]; omega⟩
                  · have HE9 := hide (HFin.out (F y) (fun h => by rw [hm] at h; cases h) (fun _ => by omega) _ (Or.inr ⟨rfl, rfl⟩))
                    clear HFin HF4
                    go_wp2_with (fail)
                    go_region_held3 (S17 (ax.add (y * 8)) (ax.add (x * 8)) q p) ((with_reducible exact HK7.out)) ((fail))
                    clear HK7
                    go_wp2
                    all_goals exact ⟨⟨i + 1, _, _, ci, by go_num, HRn, HE9.out.1, HE9.out.2⟩, by simp [intOf]; omega⟩
        · have him : i = L.length := by omega
          subst him
          rw [List.take_length] at HR HZ HF
          clear ci hi
          go_wp2_with (fail)
          go_loopw [21] (fun v wr => ∃ (k : Nat) (G : Nat → Int), k ≤ n ∧ v = .int .i64 k ∧ Hid (Rl (fun v r => (r = 2 ∧ v < n ∧ ov S n L v = true) ∨ (r = 1 ∧ v < k ∧ unf S n Q v = true)) n G) ∧ Hid (Zt wr w g fb tb hk lk n G (fun v => decide (v ∈ Q)) (mt S n L) F)) (fun v _ => n - (intOf v).toNat)
          case atStart => exact ⟨0, _, Nat.zero_le _, rfl, HR.out.ext (fun v r _ => ⟨Or.inl, fun h => h.elim (fun h => h) (fun h => by omega)⟩), HZ⟩
          case round =>
            clear HR HZ
            obtain ⟨k, G, hk2, rfl, HR, HZ⟩ := hrel
            by_cases cc : k < n
            · have hcc : (k : Int) < (n : Int) := by omega
              have hki : IntKind.u64.wrap (k : Int) = k := wu _ (by omega) (by omega)
              have hBw := HZ.out.1.2.2.2
              obtain ⟨s, hs⟩ : ∃ s, S k = s := ⟨_, rfl⟩
              have hK8 := (HAt.out wr hBw k cc).2.2
              have hs0 := HSR.out k cc 0 (by decide)
              have hs1 := HSR.out k cc 1 (by decide)
              rw [hs] at hK8 hs0 hs1
              obtain ⟨q0, q1, q2, q3, q4, q5, q6, q7⟩ := hK8
              obtain ⟨w2, hw2⟩ : ∃ w2, wr.alloc (.cells #[.int .u64 (s 0), .int .u64 (s 1), .int .u64 (s 2), .int .u64 (s 3), .int .u64 (s 4), .int .u64 (s 5), .int .u64 (s 6), .int .u64 (s 7)] 57) = w2 := ⟨_, rfl⟩
              have hz2 : w2.heap[wr.heap.size]? = some (.cells #[.int .u64 (s 0), .int .u64 (s 1), .int .u64 (s 2), .int .u64 (s 3), .int .u64 (s 4), .int .u64 (s 5), .int .u64 (s 6), .int .u64 (s 7)] 57 (0, 0)) := by rw [← hw2]; exact at0 _ _
              have hB2 : Below wr.heap.size wr w2 := by rw [← hw2]; exact b1 _ _ _
              have HZ2 := hide (HZ.out.on hB2)
              have k0 : w2.cell? ⟨wr.heap.size, 0, none⟩ = some (.int .u64 (s 0)) := (cell_of_row _ _ _ _ _ _ hz2).trans rfl
              have k1 : w2.cell? ⟨wr.heap.size, 1, none⟩ = some (.int .u64 (s 1)) := (cell_of_row _ _ _ _ _ _ hz2).trans rfl
              have kt : w2.cell? ⟨tb, k, none⟩ = some (.bool (decide (k ∈ Q))) := HZ2.out.2.1.cell k cc
              have kf : w2.cell? ⟨fb, 0, none⟩ = some (.slice (some ⟨g, 0, none⟩) n n) := HZ2.out.1.2.1.cell
              have HN : Hid (∀ W G (r : Nat) β, GI W g n G → Calls Try.prog 38 #[.agg #[.slice (some ⟨g, 0, none⟩) n n], .int .i64 (k : Int), .int .i64 (r : Int), .bool β] W fun e w' => (∃ x, e = .returned x) ∧ GI w' g n (nx G k r β) ∧ Ch (fun j => j = g) W w') := fun W G r β hG => fnote_any g n k r β G cc hn W hG
              have HG2 : Hid (GI (wr.alloc (.cells #[.int .u64 (s 0), .int .u64 (s 1), .int .u64 (s 2), .int .u64 (s 3), .int .u64 (s 4), .int .u64 (s 5), .int .u64 (s 6), .int .u64 (s 7)] 57)) g n G) := by
                show GI _ _ _ _
                rw [hw2]; exact HZ2.out.1.2.2.1
              have HRn : Hid (Rl (fun v r => (r = 2 ∧ v < n ∧ ov S n L v = true) ∨ (r = 1 ∧ v < k + 1 ∧ unf S n Q v = true)) n (nx G k 1 (unf S n Q k))) := (HR.out.note k 1 (unf S n Q k) (by omega)).ext (fun v r hv => by
                constructor
                · rintro ((h | ⟨h1, h2, h3⟩) | ⟨h1, h2, h3⟩)
                  · exact .inl h
                  · exact .inr ⟨h1, by omega, h3⟩
                  · subst h2; exact .inr ⟨h3, by omega, h1⟩
                · rintro (h | ⟨h1, h2, h3⟩)
                  · exact .inl (.inl h)
                  · by_cases e : v < k
                    · exact .inl (.inr ⟨h1, e, h3⟩)
                    · have e9 : v = k := by omega
                      subst e9; exact .inr ⟨h3, rfl, h1⟩)
              rw [unf_eq, hs] at HRn
              obtain ⟨R, hR⟩ : ∃ R, unw n k (s 0) (s 1) (decide (k ∈ Q)) = R := ⟨_, rfl⟩
              rw [hR] at HRn
              rw [← hw2] at k0 k1 kt kf HZ2
              have HFin : Hid (∀ W, GI W g n (nx G k 1 R) → Ch (fun j => j = g) (wr.alloc (.cells #[.int .u64 (s 0), .int .u64 (s 1), .int .u64 (s 2), .int .u64 (s 3), .int .u64 (s 4), .int .u64 (s 5), .int .u64 (s 6), .int .u64 (s 7)] 57)) W → Zt W w g fb tb hk lk n (nx G k 1 R) (fun v => decide (v ∈ Q)) (mt S n L) F) := fun W h1 h2 => HZ2.out.ch h2 h1 HNe.out.1 (by have := HNe.out; omega)
              unfold unw at hR
              obtain ⟨l, hl⟩ : ∃ l, s 0 = l := ⟨_, rfl⟩
              obtain ⟨f, hf⟩ : ∃ f, s 1 = f := ⟨_, rfl⟩
              rw [hl] at hR k0 k1 kt kf HG2 HFin hs0 q0
              rw [hf] at hR k0 k1 kt kf HG2 HFin hs1 q1
              clear hs hw2 hz2 hB2 HZ2 HR HZ hBw hl hf hk2
              cases hq : decide (k ∈ Q) with
              | true =>
                rw [hq] at hR kt
                simp only [if_true] at hR
                clear hq
                cases h1 : (l != 0) with
                | true =>
                  have HE : Hid (true = R) := by show _ = _; rw [← hR, h1]; rfl
                  clear hR
                  go_wp2_with (fail)
                  refine (HN.out _ _ 1 _ HG2.out).mono ?_
                  rintro e3 w3 ⟨⟨x3, rfl⟩, hG3, hC3⟩
                  have HZ3 := hide (HFin.out w3 (by rw [← HE.out]; exact hG3) hC3)
                  clear hG3 hC3 HFin HN HG2 HE kt kf k0 k1 q0 q1 q2 q3 q4 q5 q6 q7
                  go_wp2
                  all_goals exact ⟨⟨k + 1, _, cc, by go_num, HRn, HZ3⟩, by simp [intOf]; omega⟩
                | false =>
                  have HE : Hid ((f != (k : Int)) = R) := by show _ = _; rw [← hR, h1]; rfl
                  clear hR
                  go_wp2_with (fail)
                  refine (HN.out _ _ 1 _ HG2.out).mono ?_
                  rintro e3 w3 ⟨⟨x3, rfl⟩, hG3, hC3⟩
                  have HZ3 := hide (HFin.out w3 (by rw [← HE.out]; exact hG3) hC3)
                  clear hG3 hC3 HFin HN HG2 HE kt kf k0 k1 q0 q1 q2 q3 q4 q5 q6 q7
                  go_wp2
                  all_goals exact ⟨⟨k + 1, _, cc, by go_num, HRn, HZ3⟩, by simp [intOf]; omega⟩
              | false =>
                rw [hq] at hR kt
                simp only [Bool.false_eq_true, if_false] at hR
                clear hq
                cases h1 : (l == 0) with
                | true =>
                  have h1e : l = 0 := by simpa using h1
                  subst h1e
                  have HE : Hid (true = R) := by show _ = _; rw [← hR]; rfl
                  clear h1
                  clear hR
                  go_wp2_with (fail)
                  refine (HN.out _ _ 1 _ HG2.out).mono ?_
                  rintro e3 w3 ⟨⟨x3, rfl⟩, hG3, hC3⟩
                  have HZ3 := hide (HFin.out w3 (by rw [← HE.out]; exact hG3) hC3)
                  clear hG3 hC3 HFin HN HG2 HE kt kf k0 k1 q0 q1 q2 q3 q4 q5 q6 q7
                  go_wp2
                  all_goals exact ⟨⟨k + 1, _, cc, by go_num, HRn, HZ3⟩, by simp [intOf]; omega⟩
                | false =>
                  by_cases h2 : (n : Int) ≤ l
                  · have h2d : decide ((n : Int) ≤ l) = true := by simpa using h2
                    have h2n : ¬ l < (n : Int) := by omega
                    cases h3 : (l == 18446744073709551615) with
                    | true =>
                      have h3n : (l != 18446744073709551615) = false := by simp at h3; simp [h3]
                      cases h4 : (f == 18446744073709551615) with
                      | true =>
                        have h4n : (f != 18446744073709551615) = false := by simp at h4; simp [h4]
                        have HE : Hid (false = R) := by show _ = _; rw [← hR, if_pos h3]; exact h4n.symm
                        clear hR
                        go_wp2_with (fail)
                        refine (HN.out _ _ 1 _ HG2.out).mono ?_
                        rintro e3 w3 ⟨⟨x3, rfl⟩, hG3, hC3⟩
                        have HZ3 := hide (HFin.out w3 (by rw [← HE.out]; exact hG3) hC3)
                        clear hG3 hC3 HFin HN HG2 HE kt kf k0 k1 q0 q1 q2 q3 q4 q5 q6 q7
                        go_wp2
                        all_goals exact ⟨⟨k + 1, _, cc, by go_num, HRn, HZ3⟩, by simp [intOf]; omega⟩
                      | false =>
                        have h4n : (f != 18446744073709551615) = true := by simp at h4; simp [h4]
                        have HE : Hid (true = R) := by show _ = _; rw [← hR, if_pos h3]; exact h4n.symm
                        clear hR
                        go_wp2_with (fail)
                        refine (HN.out _ _ 1 _ HG2.out).mono ?_
                        rintro e3 w3 ⟨⟨x3, rfl⟩, hG3, hC3⟩
                        have HZ3 := hide (HFin.out w3 (by rw [← HE.out]; exact hG3) hC3)
                        clear hG3 hC3 HFin HN HG2 HE kt kf k0 k1 q0 q1 q2 q3 q4 q5 q6 q7
                        go_wp2
                        all_goals exact ⟨⟨k + 1, _, cc, by go_num, HRn, HZ3⟩, by simp [intOf]; omega⟩
                    | false =>
                      have h3n : (l != 18446744073709551615) = true := by simp at h3; simp [h3]
                      have HE : Hid (true = R) := by show _ = _; rw [← hR, if_neg (by rw [h3]; simp), h2d]; simp
                      clear hR
                      go_wp2_with (fail)
                      refine (HN.out _ _ 1 _ HG2.out).mono ?_
                      rintro e3 w3 ⟨⟨x3, rfl⟩, hG3, hC3⟩
                      have HZ3 := hide (HFin.out w3 (by rw [← HE.out]; exact hG3) hC3)
                      clear hG3 hC3 HFin HN HG2 HE kt kf k0 k1 q0 q1 q2 q3 q4 q5 q6 q7
                      go_wp2
                      all_goals exact ⟨⟨k + 1, _, cc, by go_num, HRn, HZ3⟩, by simp [intOf]; omega⟩
                  · have h2n : l < (n : Int) := by omega
                    have h3 : (l == 18446744073709551615) = false := by simp; omega
                    have h3n : (l != 18446744073709551615) = true := by simp; omega
                    have HE : Hid (decide ((n : Int) ≤ f) = R) := by show _ = _; rw [← hR, if_neg (by rw [h3]; simp), h1]; simp [h2]
                    clear hR
                    go_wp2_with (fail)
                    refine (HN.out _ _ 1 _ HG2.out).mono ?_
                    rintro e3 w3 ⟨⟨x3, rfl⟩, hG3, hC3⟩
                    have HZ3 := hide (HFin.out w3 (by rw [← HE.out]; exact hG3) hC3)
                    clear hG3 hC3 HFin HN HG2 HE kt kf k0 k1 q0 q1 q2 q3 q4 q5 q6 q7
                    go_wp2
                    all_goals exact ⟨⟨k + 1, _, cc, by go_num, HRn, HZ3⟩, by simp [intOf]; omega⟩
            · have hkn : n = k := by omega
              subst hkn
              clear cc hk2
              go_wp2_with (fail)
              go_loopw [24] (fun v wr => ∃ (k : Nat) (G : Nat → Int), k ≤ n ∧ v = .int .i64 k ∧ Hid (Rl (fun v r => ((r = 2 ∧ v < n ∧ ov S n L v = true) ∨ (r = 1 ∧ v < n ∧ unf S n Q v = true)) ∨ (v < k ∧ PS S n (fq S near) Q L v r)) n G) ∧ Hid (Zt wr w g fb tb hk lk n G (fun v => decide (v ∈ Q)) (mt S n L) F)) (fun v _ => n - (intOf v).toNat)
              case atStart => exact ⟨0, _, Nat.zero_le _, rfl, HR.out.ext (fun v r _ => ⟨Or.inl, fun h => h.elim (fun h => h) (fun h => by omega)⟩), HZ⟩
              case round =>
                clear HR HZ
                obtain ⟨k, G, hk2, rfl, HR, HZ⟩ := hrel
                by_cases cc : k < n
                · have hcc : (k : Int) < (n : Int) := by omega
                  have hki : IntKind.u64.wrap (k : Int) = k := wu _ (by omega) (by omega)
                  have hBw := HZ.out.1.2.2.2
                  obtain ⟨s, hs⟩ : ∃ s, S k = s := ⟨_, rfl⟩
                  have hK8 := (HAt.out wr hBw k cc).2.2
                  have hs0 := HSR.out k cc 0 (by decide)
                  have hs1 := HSR.out k cc 1 (by decide)
                  rw [hs] at hK8 hs0 hs1
                  obtain ⟨q0, q1, q2, q3, q4, q5, q6, q7⟩ := hK8
                  obtain ⟨w2, hw2⟩ : ∃ w2, wr.alloc (.cells #[.int .u64 (s 0), .int .u64 (s 1), .int .u64 (s 2), .int .u64 (s 3), .int .u64 (s 4), .int .u64 (s 5), .int .u64 (s 6), .int .u64 (s 7)] 57) = w2 := ⟨_, rfl⟩
                  have hz2 : w2.heap[wr.heap.size]? = some (.cells #[.int .u64 (s 0), .int .u64 (s 1), .int .u64 (s 2), .int .u64 (s 3), .int .u64 (s 4), .int .u64 (s 5), .int .u64 (s 6), .int .u64 (s 7)] 57 (0, 0)) := by rw [← hw2]; exact at0 _ _
                  have hB2 : Below wr.heap.size wr w2 := by rw [← hw2]; exact b1 _ _ _
                  have HZ2 := hide (HZ.out.on hB2)
                  have k0 : w2.cell? ⟨wr.heap.size, 0, none⟩ = some (.int .u64 (s 0)) := (cell_of_row _ _ _ _ _ _ hz2).trans rfl
                  have k1 : w2.cell? ⟨wr.heap.size, 1, none⟩ = some (.int .u64 (s 1)) := (cell_of_row _ _ _ _ _ _ hz2).trans rfl
                  obtain ⟨l, hl⟩ : ∃ l, s 0 = l := ⟨_, rfl⟩
                  have hbh : bh S n k = (decide (0 < l) && decide (l < (n : Int))) := by unfold bh; rw [hs, hl]
                  have HNo : Hid (bh S n k = false → Zt w2 w g fb tb hk lk n G (fun v => decide (v ∈ Q)) (mt S n L) F ∧ Rl (fun v r => ((r = 2 ∧ v < n ∧ ov S n L v = true) ∨ (r = 1 ∧ v < n ∧ unf S n Q v = true)) ∨ (v < k + 1 ∧ PS S n (fq S near) Q L v r)) n G) := fun h0 => by
                    refine ⟨HZ2.out, HR.out.ext (fun v r hv => ?_)⟩
                    constructor
                    · rintro (h | ⟨h1, h2⟩)
                      · exact .inl h
                      · exact .inr ⟨by omega, h2⟩
                    · rintro (h | ⟨h1, h2⟩)
                      · exact .inl h
                      · by_cases e : v < k
                        · exact .inr ⟨e, h2⟩
                        · have e9 : v = k := by omega
                          subst e9
                          rcases h2 with (h2 | ⟨_, _, h3⟩) | ⟨_, _, h3⟩
                          · exact .inl h2
                          · rw [h0] at h3; simp at h3
                          · rw [h0] at h3; simp at h3
                  rw [hl] at k0 hs0 q0
                  by_cases c1 : l < 1
                  · have h9 := HNo.out (by rw [hbh]; simp; omega)
                    have HZ3 := hide h9.1
                    have HR3 := hide h9.2
                    clear h9
                    rw [← hw2] at k0 k1 HZ3
                    rw [hl] at k0 k1 HZ3
                    clear HNo HZ2 hw2 hz2 hB2 HR HZ hBw hs hl hbh
                    go_wp2
                    all_goals exact ⟨⟨k + 1, G, cc, by go_num, HR3, HZ3⟩, by simp [intOf]; omega⟩
                  · by_cases c2 : (n : Int) ≤ l
                    · have h9 := HNo.out (by rw [hbh]; simp; omega)
                      have HZ3 := hide h9.1
                      have HR3 := hide h9.2
                      clear h9
                      rw [← hw2] at k0 k1 HZ3
                      rw [hl] at k0 k1 HZ3
                      clear HNo HZ2 hw2 hz2 hB2 HR HZ hBw hs hl hbh
                      go_wp2
                      all_goals exact ⟨⟨k + 1, G, cc, by go_num, HR3, HZ3⟩, by simp [intOf]; omega⟩
                    · have hb9 : bh S n k = true := by rw [hbh]; simp; omega
                      obtain ⟨f, hf⟩ : ∃ f, S k 1 = f := ⟨_, rfl⟩
                      obtain ⟨M, hM⟩ : ∃ M, mt S n L k = M := ⟨_, rfl⟩
                      have HRn : Hid (∀ β3 β4 : Bool, β3 = (!M) → β4 = (M && (lst S n (fq S near) L k != f)) → Rl (fun v r => ((r = 2 ∧ v < n ∧ ov S n L v = true) ∨ (r = 1 ∧ v < n ∧ unf S n Q v = true)) ∨ (v < k + 1 ∧ PS S n (fq S near) Q L v r)) n (nx (nx G k 3 β3) k 4 β4)) := fun β3 β4 e3 e4 => by
                        rw [← hM] at e3 e4
                        rw [← hf] at e4
                        refine ((HR.out.note k 3 β3 (by omega)).note k 4 β4 (by omega)).ext (fun v r hv => ?_)
                        constructor
                        · rintro (((h | ⟨h1, h2⟩) | ⟨h1, h2, h3⟩) | ⟨h1, h2, h3⟩)
                          · exact .inl h
                          · exact .inr ⟨by omega, h2⟩
                          · subst h2
                            exact .inr ⟨by omega, .inl (.inr ⟨h3, hv, by rw [hb9, Bool.true_and, ← e3]; exact h1⟩)⟩
                          · subst h2
                            exact .inr ⟨by omega, .inr ⟨h3, hv, by rw [hb9, Bool.true_and, ← e4]; exact h1⟩⟩
                        · rintro (h | ⟨h1, h2⟩)
                          · exact .inl (.inl (.inl h))
                          · by_cases e : v < k
                            · exact .inl (.inl (.inr ⟨e, h2⟩))
                            · have e9 : v = k := by omega
                              subst e9
                              rcases h2 with (h2 | ⟨h2, _, h3⟩) | ⟨h2, _, h3⟩
                              · exact .inl (.inl (.inl h2))
                              · rw [hb9, Bool.true_and, ← e3] at h3; exact .inl (.inr ⟨h3, rfl, h2⟩)
                              · rw [hb9, Bool.true_and, ← e4] at h3; exact .inr ⟨h3, rfl, h2⟩
                      have HN : Hid (∀ W G (r : Nat) β, GI W g n G → Calls Try.prog 38 #[.agg #[.slice (some ⟨g, 0, none⟩) n n], .int .i64 (k : Int), .int .i64 (r : Int), .bool β] W fun e w' => (∃ x, e = .returned x) ∧ GI w' g n (nx G k r β) ∧ Ch (fun j => j = g) W w') := fun W G r β hG => fnote_any g n k r β G cc hn W hG
                      have HK : Hid (∀ W, Ch (fun j => j = g) w2 W → S38 fb g n hk lk wr.heap.size k M f (F k) W) := fun W hW => by
                        have hgl := HZ.out.1.2.2.1.lt
                        have hnk := HZ.out.ne
                        have hne := HNe.out
                        have hs1f : s 1 = f := by rw [← hf, hs]
                        rw [hs1f] at k1
                        have kh := HZ2.out.2.2.1.cell k cc
                        rw [hM] at kh
                        exact ⟨(hW.cell (p := ⟨fb, 0, none⟩) HZ2.out.1.2.1.lt (by show fb ≠ g; omega)).trans HZ2.out.1.2.1.cell, (hW.cell (p := ⟨hk, k, none⟩) HZ2.out.2.2.1.lt hnk.2.1).trans kh, (hW.cell (p := ⟨wr.heap.size, 1, none⟩) (lt_of_some hz2) (by show wr.heap.size ≠ g; omega)).trans k1, (hW.cell (p := ⟨lk, k, none⟩) HZ2.out.2.2.2.lt hnk.2.2.1).trans (HZ2.out.2.2.2.cell k cc)⟩
                      have HK7 : Hid (∀ W, Ch (fun j => j = g) w2 W → S37 fb g n hk k M W) := fun W hW => ⟨(HK.out W hW).1, (HK.out W hW).2.1⟩
                      have HG0 := hide HZ2.out.1.2.2.1
                      have HC0 : Hid (Ch (fun j => j = g) w2 w2) := Ch.refl _ _
                      have HFk : Hid (M = true → F k = lst S n (fq S near) L k) := fun h => HF.out k cc (by rw [hM]; exact h)
                      have HFin : Hid (∀ W G', Ch (fun j => j = g) w2 W → GI W g n G' → Zt W w g fb tb hk lk n G' (fun v => decide (v ∈ Q)) (mt S n L) F) := fun W G' h1 h2 => HZ2.out.ch h1 h2 HNe.out.1 (by have := HNe.out; omega)
                      have k0' := k0
                      rw [← hw2] at k0'
                      rw [hl] at k0'
                      have HW2 := hide hw2
                      rw [hl] at HW2
                      clear HNo HZ2 hw2 hz2 hB2 HR HZ hBw hs hbh hf hM k0 k1
                      go_wp2_with (fail)
                      rw [HW2.out]
                      clear HW2 k0' q0 q1 q2 q3 q4 q5 q6 q7
                      go_region_held3 (S37 fb g n hk k M) ((first | with_reducible exact HK7.out _ (Ch.drew HC0.out) | with_reducible exact HK7.out _ HC3.out)) ((first | (go_at_call 38; refine (HN.out w2.drew _ 3 _ (HG0.out.of rfl)).mono ?_; rintro e3 w3 ⟨⟨x3, rfl⟩, hG3, hC3⟩; have HG3 := hide hG3; have HC3 : Hid (Ch (fun j => j = g) w2 w3) := HC0.out.drew.trans hC3; clear hG3 hC3)))
                      cases M with
                      | true =>
                        go_wp2_with (fail)
                        go_region_held3 (S38 fb g n hk lk wr.heap.size k true f (F k)) ((first | with_reducible exact HK.out _ (Ch.drew HC3.out) | with_reducible exact HK.out _ HC6.out)) ((first | (go_at_call 38; refine (HN.out w3.drew _ 4 _ (HG3.out.of rfl)).mono ?_; rintro e3 w6 ⟨⟨x3, rfl⟩, hG3, hC3⟩; have HG6 := hide hG3; have HC6 : Hid (Ch (fun j => j = g) w2 w6) := HC3.out.drew.trans hC3; clear hG3 hC3)))
                        have hFk := HFk.out (by first | exact rfl | trivial)
                        have HR6 := hide (HRn.out (!true) (f != F k) rfl (by rw [hFk, Bool.true_and]; exact bne_comm))
                        have HZ6 := hide (HFin.out _ _ HC6.out HG6.out)
                        clear HN HG0 HC0 HK HK7 HRn HFin HG3 HC3 HG6 HC6 HFk hFk
                        go_wp2
                        all_goals exact ⟨⟨k + 1, _, cc, by go_num, HR6, HZ6⟩, by simp [intOf]; omega⟩
                      | false =>
                        go_wp2_with (fail)
                        refine wp_region_held_drew (S := (S38 fb g n hk lk wr.heap.size k false f (F k))) (by kernel_rfl) ?_ (fun hHeld => ?_)
                        · exact HK.out _ (Ch.drew HC3.out)
                        refine wpAnyH_take (i := 0) (oi := ({ dst := some 221, op := Go.Op.load 79 (Go.Operand.tmp 11), type := 79, pos := "ref.go:145", after := #[], guard := none } : Oper)) (v := ?_) rfl (by kernel_rfl) (by kernel_rfl) (by kernel_rfl) (fun _ _ _ h => h) (Or.inl ⟨by rfl, ?_⟩) (by assumption) ?_
                        rotate_left 1
                        · (intro w hSw; (try dsimp only at hSw); go_simp; (try with_reducible rfl))
                        try simp only [Act.put, List.setIfInBounds_toArray, List.set_cons_zero, List.set_cons_succ]
                        refine wpAnyH_take (i := 1) (oi := ({ dst := some 222, op := Go.Op.move (Go.Operand.tmp 24), type := 3, pos := "ref.go:145", after := #[], guard := none } : Oper)) (v := ?_) rfl (by kernel_rfl) (by kernel_rfl) (by kernel_rfl) (fun _ _ _ h => h) (Or.inl ⟨by rfl, ?_⟩) (by assumption) ?_
                        rotate_left 1
                        · (intro w hSw; (try dsimp only at hSw); go_simp; (try with_reducible rfl))
                        try simp only [Act.put, List.setIfInBounds_toArray, List.set_cons_zero, List.set_cons_succ]
                        refine wpAnyH_take (i := 2) (oi := ({ dst := some 223, op := Go.Op.move (Go.Operand.tmp 15), type := 81, pos := "ref.go:145", after := #[], guard := none } : Oper)) (v := ?_) rfl (by kernel_rfl) (by kernel_rfl) (by kernel_rfl) (fun _ _ _ h => h) (Or.inl ⟨by rfl, ?_⟩) (by assumption) ?_
                        rotate_left 1
                        · (intro w hSw; (try dsimp only at hSw); go_simp; (try with_reducible rfl))
                        try simp only [Act.put, List.setIfInBounds_toArray, List.set_cons_zero, List.set_cons_succ]
                        refine wpAnyH_take (i := 3) (oi := ({ dst := some 224, op := Go.Op.move (Go.Operand.tmp 24), type := 3, pos := "ref.go:145", after := #[], guard := none } : Oper)) (v := ?_) rfl (by kernel_rfl) (by kernel_rfl) (by kernel_rfl) (fun _ _ _ h => h) (Or.inl ⟨by rfl, ?_⟩) (by assumption) ?_
                        rotate_left 1
                        · (intro w hSw; (try dsimp only at hSw); go_simp; (try with_reducible rfl))
                        try simp only [Act.put, List.setIfInBounds_toArray, List.set_cons_zero, List.set_cons_succ]
                        refine wpAnyH_take (i := 4) (oi := ({ dst := some 225, op := Go.Op.indexAddr 81 (Go.Operand.tmp 223) (Go.Operand.tmp 224), type := 0, pos := "ref.go:145", after := #[{ on := 2, ground := Go.Ground.data }, { on := 3, ground := Go.Ground.data }], guard := none } : Oper)) (v := ?_) rfl (by kernel_rfl) (by kernel_rfl) (by kernel_rfl) (fun _ _ _ h => h) (Or.inl ⟨by rfl, ?_⟩) (by assumption) ?_
                        rotate_left 1
                        · (intro w hSw; (try dsimp only at hSw); go_simp; (try with_reducible rfl))
                        try simp only [Act.put, List.setIfInBounds_toArray, List.set_cons_zero, List.set_cons_succ]
                        refine wpAnyH_take (i := 5) (oi := ({ dst := some 226, op := Go.Op.load 4 (Go.Operand.tmp 225), type := 4, pos := "ref.go:145", after := #[{ on := 4, ground := Go.Ground.data }], guard := none } : Oper)) (v := ?_) rfl (by kernel_rfl) (by kernel_rfl) (by kernel_rfl) (fun _ _ _ h => h) (Or.inl ⟨by rfl, ?_⟩) (by assumption) ?_
                        rotate_left 1
                        · (intro w hSw; (try dsimp only at hSw); go_simp; (try with_reducible rfl))
                        try simp only [Act.put, List.setIfInBounds_toArray, List.set_cons_zero, List.set_cons_succ]
                        refine wpAnyH_take (i := 6) (oi := ({ dst := some 227, op := Go.Op.move (Go.Operand.tmp 226), type := 4, pos := "ref.go:145", after := #[{ on := 5, ground := Go.Ground.data }], guard := none } : Oper)) (v := ?_) rfl (by kernel_rfl) (by kernel_rfl) (by kernel_rfl) (fun _ _ _ h => h) (Or.inl ⟨by rfl, ?_⟩) (by assumption) ?_
                        rotate_left 1
                        · (intro w hSw; (try dsimp only at hSw); go_simp; (try with_reducible rfl))
                        try simp only [Act.put, List.setIfInBounds_toArray, List.set_cons_zero, List.set_cons_succ]
                        refine wpAnyH_take (i := 7) (oi := ({ dst := some 228, op := Go.Op.indexAddr 57 (Go.Operand.tmp 25) (Go.Operand.const (Go.Value.int Go.IntKind.i64 1)), type := 0, pos := "ref.go:145", after := #[{ on := 6, ground := Go.Ground.guard }], guard := some (6, true) } : Oper)) (v := undef) rfl (by kernel_rfl) (by kernel_rfl) (by kernel_rfl) (fun _ _ _ h => h) (Or.inr ⟨by rfl, rfl⟩) (by assumption) ?_
                        try simp only [Act.put, List.setIfInBounds_toArray, List.set_cons_zero, List.set_cons_succ]
                        refine wpAnyH_take (i := 8) (oi := ({ dst := some 229, op := Go.Op.load 28 (Go.Operand.tmp 228), type := 28, pos := "ref.go:145", after := #[{ on := 7, ground := Go.Ground.data }, { on := 6, ground := Go.Ground.guard }], guard := some (6, true) } : Oper)) (v := undef) rfl (by kernel_rfl) (by kernel_rfl) (by kernel_rfl) (fun _ _ _ h => h) (Or.inr ⟨by rfl, rfl⟩) (by assumption) ?_
                        try simp only [Act.put, List.setIfInBounds_toArray, List.set_cons_zero, List.set_cons_succ]
                        refine wpAnyH_take (i := 9) (oi := ({ dst := some 230, op := Go.Op.move (Go.Operand.tmp 16), type := 32, pos := "ref.go:145", after := #[{ on := 6, ground := Go.Ground.guard }], guard := some (6, true) } : Oper)) (v := undef) rfl (by kernel_rfl) (by kernel_rfl) (by kernel_rfl) (fun _ _ _ h => h) (Or.inr ⟨by rfl, rfl⟩) (by assumption) ?_
                        try simp only [Act.put, List.setIfInBounds_toArray, List.set_cons_zero, List.set_cons_succ]
                        refine wpAnyH_take (i := 10) (oi := ({ dst := some 231, op := Go.Op.move (Go.Operand.tmp 24), type := 3, pos := "ref.go:145", after := #[{ on := 6, ground := Go.Ground.guard }], guard := some (6, true) } : Oper)) (v := undef) rfl (by kernel_rfl) (by kernel_rfl) (by kernel_rfl) (fun _ _ _ h => h) (Or.inr ⟨by rfl, rfl⟩) (by assumption) ?_
                        try simp only [Act.put, List.setIfInBounds_toArray, List.set_cons_zero, List.set_cons_succ]
                        refine wpAnyH_take (i := 11) (oi := ({ dst := some 232, op := Go.Op.indexAddr 32 (Go.Operand.tmp 230) (Go.Operand.tmp 231), type := 0, pos := "ref.go:145", after := #[{ on := 9, ground := Go.Ground.data }, { on := 10, ground := Go.Ground.data }, { on := 6, ground := Go.Ground.guard }], guard := some (6, true) } : Oper)) (v := undef) rfl (by kernel_rfl) (by kernel_rfl) (by kernel_rfl) (fun _ _ _ h => h) (Or.inr ⟨by rfl, rfl⟩) (by assumption) ?_
                        try simp only [Act.put, List.setIfInBounds_toArray, List.set_cons_zero, List.set_cons_succ]
                        refine wpAnyH_take (i := 12) (oi := ({ dst := some 233, op := Go.Op.load 28 (Go.Operand.tmp 232), type := 28, pos := "ref.go:145", after := #[{ on := 11, ground := Go.Ground.data }, { on := 6, ground := Go.Ground.guard }], guard := some (6, true) } : Oper)) (v := undef) rfl (by kernel_rfl) (by kernel_rfl) (by kernel_rfl) (fun _ _ _ h => h) (Or.inr ⟨by rfl, rfl⟩) (by assumption) ?_
                        try simp only [Act.put, List.setIfInBounds_toArray, List.set_cons_zero, List.set_cons_succ]
                        refine wpAnyH_take (i := 13) (oi := ({ dst := some 234, op := Go.Op.binOp Go.BinOp.neq 28 (Go.Operand.tmp 229) (Go.Operand.tmp 233) 28, type := 4, pos := "ref.go:145", after := #[{ on := 8, ground := Go.Ground.data }, { on := 12, ground := Go.Ground.data }, { on := 6, ground := Go.Ground.guard }], guard := some (6, true) } : Oper)) (v := undef) rfl (by kernel_rfl) (by kernel_rfl) (by kernel_rfl) (fun _ _ _ h => h) (Or.inr ⟨by rfl, rfl⟩) (by assumption) ?_
                        try simp only [Act.put, List.setIfInBounds_toArray, List.set_cons_zero, List.set_cons_succ]
                        refine wpAnyH_take (i := 14) (oi := ({ dst := some 235, op := Go.Op.pick (Go.Operand.tmp 227) (Go.Operand.tmp 234) (Go.Operand.const (Go.Value.bool false)), type := 4, pos := "ref.go:145", after := #[{ on := 6, ground := Go.Ground.data }, { on := 13, ground := Go.Ground.data }], guard := none } : Oper)) (v := ?_) rfl (by kernel_rfl) (by kernel_rfl) (by kernel_rfl) (fun _ _ _ h => h) (Or.inl ⟨by rfl, ?_⟩) (by assumption) ?_
                        rotate_left 1
                        · (intro w hSw; (try dsimp only at hSw); go_simp; (try with_reducible rfl))
                        try simp only [Act.put, List.setIfInBounds_toArray, List.set_cons_zero, List.set_cons_succ]
                        refine wpAnyH_ready (rs := [15]) (by kernel_rfl) (by simp) ?_
                        refine AllReadyH.cons (o := ({ dst := some 236, op := Go.Op.call { callee := Go.Callee.value (Go.Operand.func 38), args := #[Go.Operand.tmp 221, Go.Operand.tmp 222, Go.Operand.const (Go.Value.int Go.IntKind.i64 4), Go.Operand.tmp 235], argTypes := #[79, 3, 3, 4] }, type := 0, pos := "ref.go:145", after := #[{ on := 0, ground := Go.Ground.data }, { on := 1, ground := Go.Ground.data }, { on := 14, ground := Go.Ground.data }, { on := 6, ground := Go.Ground.chain }], guard := none } : Oper)) rfl (fun K hK => ?_) AllReadyH.nil
                        go_simp
                        go_at_call 38
                        refine (HN.out w3.drew _ 4 _ (HG3.out.of rfl)).mono ?_
                        rintro e3 w6 ⟨⟨x3, rfl⟩, hG3, hC3⟩
                        have HG6 := hide hG3
                        have HC6 : Hid (Ch (fun j => j = g) w2 w6) := HC3.out.drew.trans hC3
                        clear hG3 hC3
                        go_wp2_with (fail)
                        refine hK.out _ _ ?_ (fun hHeld => ?_)
                        · exact HK.out _ HC6.out
                        clear hK K
                        try simp only [Act.put, List.setIfInBounds_toArray, List.set_cons_zero, List.set_cons_succ]
                        refine wpAnyH_done (by kernel_rfl) ?_ _
                        have HR6 := hide (HRn.out (!false) false rfl rfl)
                        have HZ6 := hide (HFin.out _ _ HC6.out HG6.out)
                        clear HN HG0 HC0 HK HK7 HRn HFin HG3 HC3 HG6 HC6 HFk
                        go_wp2
                        all_goals exact ⟨⟨k + 1, _, cc, by go_num, HR6, HZ6⟩, by simp [intOf]; omega⟩
                · have hkn : n = k := by omega
                  subst hkn
                  have HR2 : Hid (Rl (PS S n (fq S near) Q L) n G) := HR.out.ext (fun v r hv => ⟨fun h => h.elim (fun h => .inl (.inl h)) (fun h => h.2), fun h => .inr ⟨hv, h⟩⟩)
                  have HV := hide (verdict_any g n G _ hn HR2.out (fun v r h => PS.lt h) wr HZ.out.1.2.2.1)
                  have cX := HZ.out.1.2.1.cell
                  have HZz := hide HZ.out.1.1
                  have HZb := hide HZ.out.1.2.2.2
                  clear HR HR2 HZ HF hk2 cc
                  go_wp2_with (fail)
                  refine HV.out.mono ?_
                  rintro e4 w4 ⟨o, rfl, hL, hB4⟩
                  have hz4 : w4.heap[w.heap.size]? = some (.cells z3 35 (0, 0)) := (hB4.block _ (lt_of_some HZz.out)).trans HZz.out
                  have hbs := HZb.out.size
                  obtain ⟨g0, g1, g2, f0, f1, f2⟩ := z35 hz4
                  have HF : Hid (∀ a b c, (((w4.setCell ⟨w.heap.size, 0, none⟩ a).setCell ⟨w.heap.size, 1, none⟩ b).setCell ⟨w.heap.size, 2, none⟩ c).heap[w.heap.size]? = some (.cells #[a, b, c] 35 (0, 0)) ∧ Below w.heap.size w (((w4.setCell ⟨w.heap.size, 0, none⟩ a).setCell ⟨w.heap.size, 1, none⟩ b).setCell ⟨w.heap.size, 2, none⟩ c)) := fun a b c => by
                    rw [sets3 hz4 rfl]
                    exact ⟨setRow_heap _ _ _ _ _ _ hz4, below_setRow (HZb.out.trans (hB4.mono hbs)) (by omega) _⟩
                  have HL := hide hL
                  clear hz4 hB4 hL HV HZz HZb cX
                  go_wp2
                  all_goals (refine bodyPost_ret (v := .agg #[.bool (vR o), .int .u32 (vV o), .int .i64 (vK o)]) ?_ rfl ?_)
                  all_goals first | exact res21 _ _ _ _ _ _ rfl (HF.out _ _ _).1 | exact ⟨o, rfl, HL.out, (HF.out _ _ _).2⟩
end Au
end Go.Proofs.Ytcepfmeoeepjdab
