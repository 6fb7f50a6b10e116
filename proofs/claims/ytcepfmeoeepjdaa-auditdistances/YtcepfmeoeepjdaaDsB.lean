import Derived.Test.YtcepfmeoeepjdaaDsA
namespace Go.Proofs.Ytcepfmeoeepjdaa
namespace Au
open Go.RowKit
set_option linter.unusedVariables false
set_option maxRecDepth 8000
/-- A number as a word. -/
def us (d : Int) : Int := IntKind.u64.wrap d
theorem us_eq (d : Int) : us d = d % 18446744073709551616 := by unfold us; simp only [IntKind.wrap, IntKind.signed, IntKind.bits]; simp
theorem us_back (d : Int) (h0 : -9223372036854775808 ≤ d) (h1 : d ≤ 9223372036854775807) : wrap64 (us d) = d := by rw [us_eq]; unfold wrap64; omega
theorem us_backI (d : Int) (h0 : -9223372036854775808 ≤ d) (h1 : d ≤ 9223372036854775807) : IntKind.i64.wrap (us d) = d := by rw [IntKind.wrap_i64, us_eq]; omega
/-- The room as numbers, and 99 behind. -/
def Dr (W : World) (rb n m : Nat) (D : Nat → Int) : Prop := ∃ U, GU W rb m U ∧ (∀ v, v < n → U v = us (D v)) ∧ ∀ x, n ≤ x → x < m → U x = 99
theorem Dr.of {W W' : World} {rb n m : Nat} {D : Nat → Int} (h : Dr W rb n m D) (e : W'.heap[rb]? = W.heap[rb]?) : Dr W' rb n m D := by
  obtain ⟨U, a, b⟩ := h
  exact ⟨U, a.of e, b⟩
theorem Dr.lt {W : World} {rb n m : Nat} {D : Nat → Int} (h : Dr W rb n m D) : rb < W.heap.size := by
  obtain ⟨U, a, b⟩ := h
  exact a.lt
theorem Dr.cell {W : World} {rb n m : Nat} {D : Nat → Int} (h : Dr W rb n m D) (hm : n ≤ m) (v : Nat) (hv : v < n) : W.cell? ⟨rb, v, none⟩ = some (.int .u64 (us (D v))) := by
  obtain ⟨U, a, b, c⟩ := h
  rw [a.cell v (by omega), b v hv]
theorem Dr.fz {W : World} {rb n m : Nat} {D : Nat → Int} (h : Dr W rb n m D) (j : Nat) : W.frozen? ⟨rb, j, none⟩ = false := by
  obtain ⟨U, a, b⟩ := h
  exact a.fz j
theorem Dr.ext {W : World} {rb n m : Nat} {D D' : Nat → Int} (h : Dr W rb n m D) (he : ∀ v, v < n → D v = D' v) : Dr W rb n m D' := by
  obtain ⟨U, a, b, c⟩ := h
  exact ⟨U, a, fun v hv => by rw [b v hv, he v hv], c⟩
theorem Dr.set {W : World} {rb n m : Nat} {D : Nat → Int} (h : Dr W rb n m D) (v : Nat) (hv : v < n) (x : Int) : Dr (W.setCell ⟨rb, v, none⟩ (.int .u64 (us x))) rb n m (up D v x) := by
  obtain ⟨U, a, b, c⟩ := h
  refine ⟨_, (a.set v (us x)).1, fun u hu => ?_, fun x h1 h2 => ?_⟩
  · by_cases e : u = v
    · subst e; rw [up_eq, up_eq]
    · rw [up_ne _ _ _ _ e, up_ne _ _ _ _ e, b u hu]
  · rw [up_ne _ _ _ _ (by omega)]; exact c x h1 h2
theorem boxed_set {w : World} {b : Nat} {t : TypeId} {v : Value} (h : Boxed w b t v) (v' : Value) : Boxed (w.setCell ⟨b, 0, none⟩ v') b t v' := by
  have h' : w.heap[b]? = some (.cells #[v] t (0, 0)) := h
  show (w.setCell ⟨b, 0, none⟩ v').heap[b]? = _
  rw [setCell_eq_setRow w b 0 _ t (0, 0) _ h']
  exact setRow_heap w b _ _ t (0, 0) h'
theorem boxed_fz {w : World} {b : Nat} {t : TypeId} {v : Value} (h : Boxed w b t v) : w.frozen? ⟨b, 0, none⟩ = false := by
  have h' : w.heap[b]? = some (.cells #[v] t (0, 0)) := h
  exact frozen_of_row w b _ _ t h'
/-- What all looks at distances have. -/
def D3 (w : World) (db qb s rb n : Nat) : Prop := w.heap[db]? = some (.cells #[.pointer (some ⟨qb, 0, none⟩), .int .u32 (s : Int), .slice (some ⟨rb, 0, none⟩) n n] 103 (0, 0))
theorem D3.c {w : World} {db qb s rb n : Nat} (h : D3 w db qb s rb n) : w.cell? ⟨db, 0, none⟩ = some (.pointer (some ⟨qb, 0, none⟩)) ∧ w.cell? ⟨db, 1, none⟩ = some (.int .u32 (s : Int)) ∧ w.cell? ⟨db, 2, none⟩ = some (.slice (some ⟨rb, 0, none⟩) n n) := by
  refine ⟨?_, ?_, ?_⟩ <;> exact (cell_of_row w db _ _ 103 (0, 0) h).trans rfl
theorem D3.lt {w : World} {db qb s rb n : Nat} (h : D3 w db qb s rb n) : db < w.heap.size := lt_of_some h
theorem D3.of {w w' : World} {db qb s rb n : Nat} (h : D3 w db qb s rb n) (e : w'.heap[db]? = w.heap[db]?) : D3 w' db qb s rb n := e.trans h
def E3 (w : World) (eb x y z : Nat) : Prop := w.heap[eb]? = some (.cells #[.int .u32 x, .int .u32 y, .int .u32 z] 73 (0, 0))
theorem E3.c {w : World} {eb x y z : Nat} (h : E3 w eb x y z) : w.cell? ⟨eb, 0, none⟩ = some (.int .u32 x) ∧ w.cell? ⟨eb, 1, none⟩ = some (.int .u32 y) ∧ w.cell? ⟨eb, 2, none⟩ = some (.int .u32 z) := by
  refine ⟨?_, ?_, ?_⟩ <;> exact (cell_of_row w eb _ _ 73 (0, 0) h).trans rfl
theorem E3.lt {w : World} {eb x y z : Nat} (h : E3 w eb x y z) : eb < w.heap.size := lt_of_some h
set_option maxHeartbeats 4000000 in
theorem fill_any (rb n m : Nat) (U : Nat → Int) (x : Int) (hm : n ≤ m) (hn : n ≤ 5000) (w : World) (h : GU w rb m U) :
    Calls Try.prog 93 #[.slice (some ⟨rb, 0, none⟩) n n, .int .u64 x] w fun e w' => (∃ v, e = .returned v) ∧ GU w' rb m (fun v => if v < n then x else U v) ∧ Ch (fun k => k = rb) w w' := by
  have HG := hide h
  clear h
  go_enter Try.func93, Try.ntmps93
  go_wp2_with (fail)
  go_loopw [7] (fun t wr => ∃ k : Nat, k ≤ n ∧ t = .int .i64 k ∧ Hid (GU wr rb m (fun v => if v < k then x else U v)) ∧ Hid (Ch (fun k => k = rb) w wr)) (fun t _ => n - (intOf t).toNat)
  case atStart => exact ⟨0, Nat.zero_le _, rfl, by simpa using HG, Ch.refl _ _⟩
  case round =>
    clear HG
    obtain ⟨k, hk, rfl, HG, HC⟩ := hrel
    by_cases cc : k < n
    · have hcc : (k : Int) < (n : Int) := by omega
      have hf := HG.out.fz k
      have hc := HG.out.cell k (by omega)
      have HG1 : Hid (GU (wr.setCell ⟨rb, k, none⟩ (.int .u64 x)) rb m (fun v => if v < k + 1 then x else U v)) := (HG.out.set k x).1.ext (fun v hv => by
        by_cases e : v = k
        · subst e; rw [up_eq, if_pos (by omega)]
        · rw [up_ne _ _ _ _ e]
          by_cases e2 : v < k
          · rw [if_pos e2, if_pos (by omega)]
          · rw [if_neg e2, if_neg (by omega)])
      have HC1 : Hid (Ch (fun k => k = rb) w (wr.setCell ⟨rb, k, none⟩ (.int .u64 x))) := HC.out.set _ _ (Or.inl rfl)
      clear HG HC
      go_wp2
      exact ⟨⟨k + 1, cc, by go_num, HG1, HC1⟩, by simp [intOf]; omega⟩
    · have hkn : n = k := by omega
      subst hkn
      have hcc : ¬ (n : Int) < (n : Int) := by omega
      have HE : Hid (GU wr rb m (fun v => if v < n then x else U v) ∧ Ch (fun k => k = rb) w wr) := ⟨HG.out, HC.out⟩
      clear HG HC
      go_wp2
      go_end0
      exact ⟨⟨_, rfl⟩, HE.out⟩
abbrev S121 (db eb rb n x y : Nat) (u v : Int) (w : World) : Prop := w.cell? ⟨db, 2, none⟩ = some (.slice (some ⟨rb, 0, none⟩) n n) ∧ w.cell? ⟨eb, 0, none⟩ = some (.int .u32 (x : Int)) ∧ w.cell? ⟨eb, 1, none⟩ = some (.int .u32 (y : Int)) ∧ w.cell? ⟨rb, x, none⟩ = some (.int .u64 (us u)) ∧ w.cell? ⟨rb, y, none⟩ = some (.int .u64 (us v))
set_option maxHeartbeats 8000000 in
theorem see121 (n m rb qb db ib s x y z : Nat) (kd : Int) (ed sl : Value) (o : Vd) (D : Nat → Int) (b : Bool) (hx : x < n) (hy : y < n) (hm : n ≤ m) (hn : n ≤ 5000) (hD : ∀ v, D v = 9223372036854775807 ∨ (-4611686018427387904 ≤ D v ∧ D v ≤ 10737418240000)) (w : World)
    (hP : Dr w rb n m D) (hI : Iq w qb n kd ed sl o) (hd : D3 w db qb s rb n) (hib : Boxed w ib 4 (.bool b)) (h1 : db ≠ rb) (h2 : ib ≠ rb) (h3 : db ≠ ib) (h4 : qb ≠ rb) (h5 : qb ≠ ib) :
    Calls Try.prog 121 #[eV x y z, .pointer (some ⟨db, 0, none⟩), .pointer (some ⟨ib, 0, none⟩)] w fun r w' => (∃ v, r = .returned v) ∧ Dr w' rb n m (sx kd D (x, y, z)) ∧ Boxed w' ib 4 (.bool (b || sc kd D (x, y, z))) ∧ Ch (fun k => k = rb ∨ k = ib) w w' := by
  obtain ⟨w0, hw0⟩ : ∃ w0, w.alloc (.cells #[.int .u32 x, .int .u32 y, .int .u32 z] 73) = w0 := ⟨_, rfl⟩
  have hB : Below w.heap.size w w0 := by rw [← hw0]; exact b1 _ _ _
  have he : E3 w0 w.heap.size x y z := by rw [← hw0]; exact at0 _ _
  have hP0 : Dr w0 rb n m D := hP.of (hB.block _ hP.lt)
  have hI0 : Iq w0 qb n kd ed sl o := (hB.block _ hI.lt).trans hI
  have hd0 : D3 w0 db qb s rb n := hd.of (hB.block _ hd.lt)
  have hib0 : Boxed w0 ib 4 (.bool b) := (hB.block _ hib.lt).trans hib
  have hr1 := hP.lt
  have hq1 := hI.lt
  have hdl := hd.lt
  have hbl := hib.lt
  obtain ⟨eb, heb⟩ : ∃ eb, eb = w.heap.size := ⟨_, rfl⟩
  rw [← heb] at he
  have hC0 : Ch (fun k => k = rb ∨ k = ib) w w0.drew := (Ch.of hB).drew
  -- what a world that has only grown still has
  have HGr : Hid (∀ W, Below w0.heap.size w0.drew W → Dr W rb n m D ∧ Iq W qb n kd ed sl o ∧ D3 W db qb s rb n ∧ Boxed W ib 4 (.bool b) ∧ E3 W eb x y z ∧ Ch (fun k => k = rb ∨ k = ib) w W) := fun W hW => by
    have hs := hB.size
    have f : ∀ k, k < w0.heap.size → W.heap[k]? = w0.heap[k]? := fun k hk => hW.block k hk
    exact ⟨hP0.of (f _ hP0.lt), (f _ hI0.lt).trans hI0, hd0.of (f _ hd0.lt), (f _ hib0.lt).trans hib0, (f _ he.lt).trans he, hC0.trans (Ch.of hW)⟩
  obtain ⟨u, hu⟩ : ∃ u, D x = u := ⟨_, rfl⟩
  obtain ⟨v, hv⟩ : ∃ v, D y = v := ⟨_, rfl⟩
  have hru := hD x
  have hrv := hD y
  rw [hu] at hru
  rw [hv] at hrv
  have hcu := hP0.cell hm x hx
  have hcv := hP0.cell hm y hy
  rw [hu] at hcu
  rw [hv] at hcv
  have HS : Hid (S121 db eb rb n x y u v w0.drew) := ⟨hd0.c.2.2, he.c.1, he.c.2.1, hcu, hcv⟩
  have bu := us_backI u (by omega) (by omega)
  have bv := us_backI v (by omega) (by omega)
  have hsc : sc kd D (x, y, z) = (!(u == 9223372036854775807) && !decide (v ≤ u + wk kd z)) := by unfold sc; simp only [hu, hv]
  have hsx : sx kd D (x, y, z) = if u = 9223372036854775807 ∨ v ≤ u + wk kd z then D else if (-4611686018427387904) ≤ u + wk kd z then up D y (u + wk kd z) else D := by unfold sx; simp only [hu, hv]
  have hwz := wk_b kd z
  have HWt := hide (weight_any qb s rb n kd x y z)
  obtain ⟨t, ht⟩ : ∃ t, wk kd z = t := ⟨_, rfl⟩
  rw [ht] at hsc hsx hwz HWt
  obtain ⟨DX, hDX⟩ : ∃ DX, sx kd D (x, y, z) = DX := ⟨_, rfl⟩
  obtain ⟨bX, hbX⟩ : ∃ bX, (b || sc kd D (x, y, z)) = bX := ⟨_, rfl⟩
  rw [hDX, hbX]
  rw [hsc] at hbX
  rw [hsx] at hDX
  have HDX := hide hDX
  have HBX := hide hbX
  clear hDX hbX
  have hsum : u = 9223372036854775807 ∨ wrap64 (u + t) = u + t := by
    rcases hru with q | q
    · exact .inl q
    · exact .inr (w64e _ (by omega) (by omega))
  have HW0 := hide hw0
  have Heb := hide heb
  clear hP hI hd hib hB hP0 hI0 hd0 hib0 he hu hv hD hC0 hw0 heb hsc hsx ht hwz hcu hcv
  go_enter Try.func121, Try.ntmps121
  go_wp2_with (fail)
  rw [HW0.out, ← Heb.out]
  go_region_held3 (S121 db eb rb n x y u v) ((with_reducible exact HS.out)) ((fail))
  clear HS HW0 bu bv
  by_cases c1 : u = 9223372036854775807
  · have hb1 : (u == 9223372036854775807) = true := by simpa using c1
    have HE : Hid (Dr w0.drew rb n m DX ∧ Boxed w0.drew ib 4 (.bool bX) ∧ Ch (fun k => k = rb ∨ k = ib) w w0.drew) := by
      obtain ⟨a1, _, _, a4, _, a6⟩ := HGr.out _ (Below.refl _ _)
      exact ⟨by rw [← HDX.out, if_pos (.inl c1)]; exact a1, by rw [← HBX.out, hb1]; simpa using a4, a6⟩
    clear hsum hru hrv HGr HWt c1 HDX HBX
    go_wp2
    all_goals (refine bodyPost_ret (results_none rfl _ _ _) rfl ?_)
    all_goals exact ⟨⟨_, rfl⟩, HE.out⟩
  · have hb1 : (u == 9223372036854775807) = false := by simpa using c1
    have hs := hsum.resolve_left c1
    have hru2 := hru.resolve_left c1
    obtain ⟨q, hq⟩ : ∃ q, u + t = q := ⟨_, rfl⟩
    rw [hq] at hs
    have HDX2 : Hid (DX = if v ≤ q then D else if (-4611686018427387904) ≤ q then up D y q else D) := by
      show _ = _
      rw [← HDX.out, hq]
      by_cases c2 : v ≤ q
      · rw [if_pos (.inr c2), if_pos c2]
      · rw [if_neg (by intro h; rcases h with h | h; exact c1 h; exact c2 h), if_neg c2]
    have HBX2 : Hid (bX = (b || !decide (v ≤ q))) := by
      show _ = _
      rw [← HBX.out, hq, hb1]; rfl
    clear HDX HBX
    have hs3 : wrap64 (u + t) = q := by rw [hq]; exact hs
    have HQ : Hid (-9223372036854775808 ≤ q ∧ q ≤ 9223372036854775807) := by
      show _ ∧ _
      have : wrap64 q = q := hs
      unfold wrap64 at this
      omega
    have HG0 := HGr.out _ (Below.refl _ _)
    have hd0 := HG0.2.2.1.c
    have he0 := HG0.2.2.2.2.1.c
    have hq0 := HG0.2.1.c.2.1
    have hql0 := HG0.2.1.lt
    obtain ⟨d0, d1, d2⟩ := hd0
    obtain ⟨e0, e1, e2⟩ := he0
    have HW1 := hide (HWt.out w0.drew hq0 hql0)
    clear hsum hru hru2 hrv c1 hq hq0 hql0 HG0 hs
    by_cases c2 : v ≤ q
    · have hd2 : decide (v ≤ q) = true := by simpa using c2
      go_wp2_with (fail)
      refine HW1.out.mono ?_
      rintro e5 w5 ⟨rfl, hB5⟩
      have HE : Hid (Dr w5 rb n m DX ∧ Boxed w5 ib 4 (.bool bX) ∧ Ch (fun k => k = rb ∨ k = ib) w w5) := by
        obtain ⟨a1, _, _, a4, _, a6⟩ := HGr.out _ hB5
        exact ⟨by rw [HDX2.out, if_pos c2]; exact a1, by rw [HBX2.out, hd2]; simpa using a4, a6⟩
      clear HGr HWt HW1 hB5 d0 d1 d2 e0 e1 e2 HDX2 HBX2
      go_wp2
      all_goals (refine bodyPost_ret (results_none rfl _ _ _) rfl ?_)
      all_goals exact ⟨⟨_, rfl⟩, HE.out⟩
    · have hd2 : decide (v ≤ q) = false := by simpa using c2
      go_wp2_with (fail)
      refine HW1.out.mono ?_
      rintro e5 w5 ⟨rfl, hB5⟩
      obtain ⟨hP5, hI5, hd5, hi5, he5, hC5⟩ := HGr.out _ hB5
      have hf5 := boxed_fz hi5
      have hc5 := hi5.cell
      -- behind the store of the flag
      obtain ⟨w6, hw6⟩ : ∃ w6, w5.setCell ⟨ib, 0, none⟩ (.bool true) = w6 := ⟨_, rfl⟩
      have hoth : ∀ k, k ≠ ib → w6.heap[k]? = w5.heap[k]? := fun k hk => by rw [← hw6]; exact Below.heap_setCell _ _ _ _ hk
      have hi6 : Boxed w6 ib 4 (.bool true) := by rw [← hw6]; exact boxed_set hi5 _
      have hC6 : Ch (fun k => k = rb ∨ k = ib) w w6 := by rw [← hw6]; exact hC5.set _ _ (Or.inl (Or.inr rfl))
      have hle5 := he5.lt
      have hbl5 : ib < w.heap.size := hbl
      have hs5 := hB5.size
      have hP6 : Dr w6 rb n m D := hP5.of (hoth _ (by omega))
      have hI6 : Iq w6 qb n kd ed sl o := (hoth _ (by omega)).trans hI5
      have hd6 : D3 w6 db qb s rb n := hd5.of (hoth _ (by omega))
      have he6 : E3 w6 eb x y z := (hoth _ (by have := Heb.out; omega)).trans he5
      have HW6 := hide (HWt.out w6 hI6.c.2.1 hI6.lt)
      have HGr6 : Hid (∀ W, Below w6.heap.size w6 W → Dr W rb n m D ∧ D3 W db qb s rb n ∧ Boxed W ib 4 (.bool true) ∧ E3 W eb x y z ∧ Ch (fun k => k = rb ∨ k = ib) w W) := fun W hW => ⟨hP6.of (hW.block _ hP6.lt), hd6.of (hW.block _ hd6.lt), (hW.block _ hi6.lt).trans hi6, (hW.block _ he6.lt).trans he6, hC6.trans (Ch.of hW)⟩
      obtain ⟨d0, d1, d2⟩ := hd6.c
      obtain ⟨e0, e1, e2⟩ := he6.c
      clear hB5 hP5 hI5 hd5 hi5 he5 hC5 hoth hi6 hC6 hP6 hI6 hd6 he6 hle5 hbl5 hs5 HGr HW1 HWt
      go_wp2_with (fail)
      clear hf5 hc5 hw6
      refine HW6.out.mono ?_
      rintro e7 w7 ⟨rfl, hB7⟩
      obtain ⟨hP7, hd7, hi7, he7, hC7⟩ := HGr6.out _ hB7
      by_cases c3 : (-4611686018427387904) ≤ q
      · have hd3 : decide ((-4611686018427387904) ≤ q) = true := by simpa using c3
        have HDX3 : Hid (DX = up D y q) := by show _ = _; rw [HDX2.out, if_neg (by omega), if_pos c3]
        have HBX3 : Hid (bX = true) := by show _ = _; rw [HBX2.out, hd2]; simp
        have hf7 := hP7.fz y
        have hr7 := hP7.cell hm y hy
        obtain ⟨g0, g1, g2⟩ := hd7.c
        obtain ⟨k0, k1, k2⟩ := he7.c
        have HEn : Hid (Dr (w7.setCell ⟨rb, y, none⟩ (.int .u64 (us q))) rb n m (up D y q) ∧ Boxed (w7.setCell ⟨rb, y, none⟩ (.int .u64 (us q))) ib 4 (.bool true) ∧ Ch (fun k => k = rb ∨ k = ib) w (w7.setCell ⟨rb, y, none⟩ (.int .u64 (us q)))) := ⟨hP7.set y hy q, (Below.heap_setCell _ _ _ _ h2).trans hi7, hC7.set _ _ (Or.inl (Or.inl rfl))⟩
        have hu : IntKind.u64.wrap q = us q := rfl
        clear hP7 hd7 hi7 he7 hC7 HW6 HGr6 hB7 HQ HDX2 HBX2
        go_wp2
        go_end0
        exact ⟨⟨_, rfl⟩, by rw [HDX3.out]; exact HEn.out.1, by rw [HBX3.out]; exact HEn.out.2.1, HEn.out.2.2⟩
      · have hd3 : decide ((-4611686018427387904) ≤ q) = false := by simpa using c3
        have HDX3 : Hid (DX = D) := by show _ = _; rw [HDX2.out, if_neg (by omega), if_neg c3]
        have HBX3 : Hid (bX = true) := by show _ = _; rw [HBX2.out, hd2]; simp
        have HEn : Hid (Dr w7 rb n m D ∧ Boxed w7 ib 4 (.bool true) ∧ Ch (fun k => k = rb ∨ k = ib) w w7) := ⟨hP7, hi7, hC7⟩
        clear hP7 hd7 hi7 he7 hC7 HW6 HGr6 hB7 HQ HDX2 HBX2
        go_wp2
        go_end0
        exact ⟨⟨_, rfl⟩, by rw [HDX3.out]; exact HEn.out.1, by rw [HBX3.out]; exact HEn.out.2.1, HEn.out.2.2⟩
end Au
end Go.Proofs.Ytcepfmeoeepjdaa
