import Derived.Test.YtcepfmeoeepjdaaDsB
import Derived.Test.YtcepfmeoeepjdaaAuL
namespace Go.Proofs.Ytcepfmeoeepjdaa
namespace Au
open Go.RowKit
set_option linter.unusedVariables false
set_option maxRecDepth 8000
theorem enters121 (A : Array Value) (W : World) : (callFunc 121 A).run Try.prog W = .ok (.enter 121 A) W := enters_of Try.func121 (by kernel_rfl) rfl A W
abbrev d3v (qb s rb n : Nat) : Value := .agg #[.pointer (some ⟨qb, 0, none⟩), .int .u32 (s : Int), .slice (some ⟨rb, 0, none⟩) n n]
theorem res101 (T : Array Value) (b : Nat) (a : Value) (W : World) (h2 : T[2]? = some (.pointer (some ⟨b, 0, none⟩))) {E : Int} (h3 : T[3]? = some (.int .i64 E)) (h : W.cell? ⟨b, 0, none⟩ = some a) :
    (results Try.f101 T).run Try.prog W = .ok (.tuple #[a, .int .i64 E]) W := by
  simp [results, Try.f101, go_sem, h2, h3, h]
/-- What a round of the program's ends with. -/
def SH (n m rb : Nat) (kd : Int) (L : List T3) (D : Nat → Int) (b : Bool) (E : Int) (W : World) : Prop := (E = 0 → b = scs kd D L ∧ Dr W rb n m (sxs kd D L)) ∧ ∃ D', Dr W rb n m D'
set_option maxHeartbeats 4000000 in
theorem shorten_any (n m rb qb s Bt Bf g : Nat) (kd : Int) (L : List T3) (f : Int) (sl : Value) (o : Vd) (D : Nat → Int) (hk : kd ≠ 3) (hm : n ≤ m) (hn : n ≤ 5000) (hlen : L.length ≤ 140737488351232) (hD : Bd n D) (w : World)
    (hQ : Iq w qb n kd (fe Bt Bf) sl o) (hP : Dr w rb n m D) (hF : Fd w g Bt Bf L f) (r1 : rb ≠ g) (r2 : rb ≠ Bt) (r3 : rb ≠ Bf) (r6 : rb ≠ qb) :
    Calls Try.prog 101 #[d3v qb s rb n] w fun e w' => ∃ b E, e = .returned (.tuple #[.bool b, .int .i64 E]) ∧ E = fa n kd L f ∧ SH n m rb kd L D b E w' ∧ Ch (fun k => k = rb) w w' := by
  have hPl := hP.lt
  have hQl := hQ.lt
  have hFl := hF.lt
  obtain ⟨w2, hw2⟩ : ∃ w2, (w.alloc (.cells #[.pointer (some ⟨qb, 0, none⟩), .int .u32 (s : Int), .slice (some ⟨rb, 0, none⟩) n n] 103)).alloc (.cells #[.bool false] 4) = w2 := ⟨_, rfl⟩
  have hB : Below w.heap.size w w2 := by rw [← hw2]; exact bA (b1 _ _ _) (by simp) _
  have hd : D3 w2 w.heap.size qb s rb n := by rw [← hw2]; exact keep _ (at0 _ _)
  have hib : Boxed w2 (w.heap.size + 1) 4 (.bool false) := by
    rw [← hw2]
    have h := Boxed.new (w.alloc (.cells #[.pointer (some ⟨qb, 0, none⟩), .int .u32 (s : Int), .slice (some ⟨rb, 0, none⟩) n n] 103)) 4 (.bool false)
    rw [World.size_alloc] at h
    exact h
  obtain ⟨db, hdb⟩ : ∃ db, db = w.heap.size := ⟨_, rfl⟩
  obtain ⟨ib, hibe⟩ : ∃ ib, ib = w.heap.size + 1 := ⟨_, rfl⟩
  rw [← hdb] at hd
  rw [← hibe] at hib
  have hQ2 : Iq w2 qb n kd (fe Bt Bf) sl o := (hB.block _ hQl).trans hQ
  have hP2 : Dr w2 rb n m D := hP.of (hB.block _ hPl)
  have hF2 := hF.on (X := fun _ => False) (Ch.of hB) (fun h => h) (fun h => h) (fun h => h)
  have q1 := hd.lt
  have q2 := hib.lt
  have q3 := hQ2.lt
  have q4 := hP2.lt
  have HO := hide (over_any qb n g Bt Bf 121 kd sl #[.pointer (some ⟨db, 0, none⟩), .pointer (some ⟨ib, 0, none⟩)] L f (fun k => k = rb ∨ k = ib)
    (fun pre W => Dr W rb n m (sxs kd D pre) ∧ Iq W qb n kd (fe Bt Bf) sl o ∧ D3 W db qb s rb n ∧ Boxed W ib 4 (.bool (scs kd D pre)) ∧ Bd n (sxs kd D pre)) hk hlen w2 enters121 hF2 (by omega) (by omega) (by omega) (fun k hk => by omega)
    (fun pre W h => ⟨o, h.2.1⟩)
    (fun pre W W' h hk => ⟨h.1.of (hk rb q4), (hk qb q3).trans h.2.1, h.2.2.1.of (hk db q1), (hk ib q2).trans h.2.2.2.1, h.2.2.2.2⟩)
    (fun pre e W hp hbad h hsz => by
      obtain ⟨a, b, c, d, hbd⟩ := h
      obtain ⟨hx, hy, _⟩ := bad_ok hbad
      refine (see121 n m rb qb db ib s e.1 e.2.1 e.2.2 kd _ _ o (sxs kd D pre) (scs kd D pre) hx hy hm hn (fun v => hbd.r hn v) W a b c d (by omega) (by omega) (by omega) (by omega) (by omega)).mono ?_
      rintro r W2 ⟨hv2, p1, p2, p3⟩
      refine ⟨hv2, ⟨by rw [sxs_app]; exact p1, ?_, ?_, by rw [scs_app]; exact p2, by rw [sxs_app]; exact hbd.step hn kd e hy⟩, p3⟩
      · exact (p3.block qb b.lt (by omega)).trans b
      · exact c.of (p3.block db c.lt (by omega)))
    ⟨hP2, hQ2, hd, hib, hD⟩)
  obtain ⟨k0, k1, k2⟩ := hd.c
  have HCw := hide hB
  have Hdb := hide hdb
  have Hib := hide hibe
  have HW2 := hide hw2
  rw [← hw2] at k0
  clear hQ hP hF hB hQ2 hP2 hF2 hd hib q1 q2 q3 q4 hw2 hD k1 k2
  rw [hdb] at k0
  clear hdb hibe
  go_enter Try.func101, Try.ntmps101
  go_wp2_with (fail)
  rw [HW2.out, ← Hib.out, ← Hdb.out]
  clear HW2
  refine HO.out.mono ?_
  rintro e5 w5 ⟨E, rfl, hE, hC5, hJ⟩
  have HEn : Hid (∃ b, Boxed w5 ib 4 (.bool b) ∧ SH n m rb kd L D b E w5) := by
    rcases hJ with ⟨h0, a, _, _, d, _⟩ | ⟨h0, pre, a, _, _, d, _⟩
    · exact ⟨_, d, fun _ => ⟨rfl, a⟩, _, a⟩
    · exact ⟨_, d, fun h => absurd h h0, _, a⟩
  obtain ⟨b, hb5, hS5⟩ := HEn.out
  have hC : Ch (fun k => k = rb) w w5 := ((Ch.of HCw.out).trans hC5).mono (fun k hk h => by
    rcases h with h | h
    · exact h
    · have := Hib.out; omega)
  have hce := hb5.cell
  have hfe := boxed_fz hb5
  have hrb : rb ≠ ib := by have := Hib.out; omega
  have HFin : Hid (∀ v, Boxed (w5.setCell ⟨ib, 0, none⟩ v) ib 4 v ∧ SH n m rb kd L D b E (w5.setCell ⟨ib, 0, none⟩ v) ∧ Ch (fun k => k = rb) w (w5.setCell ⟨ib, 0, none⟩ v)) := fun v => by
    have hh : (w5.setCell ⟨ib, 0, none⟩ v).heap[rb]? = w5.heap[rb]? := Below.heap_setCell _ _ _ _ hrb
    refine ⟨boxed_set hb5 v, ⟨fun h => ⟨(hS5.1 h).1, (hS5.1 h).2.of hh⟩, ?_⟩, hC.set _ _ (Or.inr (by have := Hib.out; omega))⟩
    obtain ⟨D', h⟩ := hS5.2
    exact ⟨D', h.of hh⟩
  have HE := hide hE
  clear hE hJ HEn hb5 hS5 hC hC5 HO HCw k0
  go_wp2
  all_goals (refine bodyPost_ret (v := .tuple #[.bool b, .int .i64 E]) ?_ rfl ?_)
  all_goals first | exact res101 _ _ _ _ rfl rfl (HFin.out _).1.cell | exact ⟨b, E, rfl, HE.out, (HFin.out _).2⟩
theorem fa_in {n : Nat} {kd : Int} {L : List T3} {f : Int} (h : fa n kd L f = 0) : ∀ e ∈ L, e.1 < n ∧ e.2.1 < n := by
  induction L with
  | nil => intro e he; cases he
  | cons x L ih =>
    intro e he
    rw [fa] at h
    by_cases hb : bad n kd x = 0
    · rw [if_pos hb] at h
      rcases List.mem_cons.1 he with rfl | he
      · exact ⟨(bad_ok hb).1, (bad_ok hb).2.1⟩
      · exact ih h e he
    · rw [if_neg hb] at h; exact absurd h hb
/-- What a look at cycles ends with. -/
def CY (n m rb s : Nat) (kd : Int) (L : List T3) (f : Int) (P : Nat → Nat → Prop) (E : Int) (o : Vd) (W : World) : Prop := E = fa n kd L f ∧ (E = 0 → Lm (fun a b => P a b ∨ (b = 2 ∧ a = s ∧ ∃ r, r < n ∧ scs kd (Pd s kd L r) L = false)) o) ∧ ∃ D, Dr W rb n m D
set_option maxHeartbeats 4000000 in
theorem cycles_any (n m rb qb s Bt Bf g : Nat) (kd : Int) (L : List T3) (f : Int) (sl : Value) (o : Vd) (P : Nat → Nat → Prop) (U0 : Nat → Int) (hk : kd ≠ 3) (hs : s < n) (hm : n ≤ m) (hn : n ≤ 5000) (hlen : L.length ≤ 140737488351232) (w : World)
    (hQ : Iq w qb n kd (fe Bt Bf) sl o) (hL : Lm P o) (hG : GU w rb m U0) (hU0 : ∀ x, n ≤ x → x < m → U0 x = 99) (hF : Fd w g Bt Bf L f) (r1 : rb ≠ g) (r2 : rb ≠ Bt) (r3 : rb ≠ Bf) (r6 : rb ≠ qb) (q1 : qb ≠ g) (q2 : qb ≠ Bt) (q3 : qb ≠ Bf) :
    Calls Try.prog 76 #[d3v qb s rb n] w fun e w' => ∃ E o', e = .returned (.int .i64 E) ∧ Iq w' qb n kd (fe Bt Bf) sl o' ∧ CY n m rb s kd L f P E o' w' ∧ Ch (fun k => k = rb ∨ k = qb) w w' := by
  have hGl := hG.lt
  have hQl := hQ.lt
  obtain ⟨w2, hw2⟩ : ∃ w2, w.alloc (.cells #[.pointer (some ⟨qb, 0, none⟩), .int .u32 (s : Int), .slice (some ⟨rb, 0, none⟩) n n] 103) = w2 := ⟨_, rfl⟩
  have hB : Below w.heap.size w w2 := by rw [← hw2]; exact b1 _ _ _
  have hd : D3 w2 w.heap.size qb s rb n := by rw [← hw2]; exact at0 _ _
  obtain ⟨db, hdb⟩ : ∃ db, db = w.heap.size := ⟨_, rfl⟩
  rw [← hdb] at hd
  have HQ : Hid (Iq w2 qb n kd (fe Bt Bf) sl o) := (hB.block _ hQl).trans hQ
  have HG := hide (hG.on hB)
  have HF := hide (hF.on (X := fun _ => False) (Ch.of hB) (fun h => h) (fun h => h) (fun h => h))
  have HC : Hid (Ch (fun k => k = rb ∨ k = qb) w w2) := Ch.of hB
  have HD := hide hd
  have HL := hide hL
  have HU0 := hide hU0
  have Hdb := hide hdb
  have HFi := hide (fill_any rb n m U0 9223372036854775807 hm hn w2 HG.out)
  obtain ⟨k0, k1, k2⟩ := hd.c
  have hne : db ≠ rb := by omega
  have hnq : db ≠ qb := by omega
  have HW2 := hide hw2
  rw [← hw2] at k2
  rw [hdb] at k2
  clear hQ hL hG hU0 hF hB hd hw2 hdb k0 k1 HG hGl hQl
  go_enter Try.func76, Try.ntmps76
  go_wp2_with (fail)
  rw [HW2.out, ← Hdb.out]
  clear HW2 k2
  refine HFi.out.mono ?_
  rintro e3 w3 ⟨⟨v3, rfl⟩, hG3, hC3⟩
  have hd3 := HD.out.of (hC3.block _ HD.out.lt hne)
  obtain ⟨k0, k1, k2⟩ := hd3.c
  have hf3 := hG3.fz s
  have hc3 := hG3.cell s (by omega)
  obtain ⟨w4, hw4⟩ : ∃ w4, w3.setCell ⟨rb, s, none⟩ (.int .u64 0) = w4 := ⟨_, rfl⟩
  have hP4 : Dr w4 rb n m (Pd s kd L 0) := by
    rw [← hw4]
    refine ⟨_, (hG3.set s 0).1, fun v hv => ?_, fun x h1 h2 => ?_⟩
    · show up _ s 0 v = us (if v = s then 0 else 9223372036854775807)
      by_cases e : v = s
      · rw [e, up_eq, if_pos rfl]; rfl
      · rw [up_ne _ _ _ _ e, if_neg e, if_pos hv]; rfl
    · rw [up_ne _ _ _ _ (by omega), if_neg (by omega)]; exact HU0.out x h1 h2
  have hC4 : Ch (fun k => k = rb) w2 w4 := by rw [← hw4]; exact hC3.set _ _ (Or.inl rfl)
  have HQ4 : Hid (Iq w4 qb n kd (fe Bt Bf) sl o) := HQ.out.on hC4 (by omega)
  have HD4 : Hid (D3 w4 db qb s rb n) := HD.out.of (hC4.block _ HD.out.lt hne)
  have HF4 := hide (HF.out.on hC4 (by omega) (by omega) (by omega))
  have HC4 : Hid (Ch (fun k => k = rb ∨ k = qb) w w4) := HC.out.trans (hC4.mono (fun k _ h => Or.inl h))
  have HP4 := hide hP4
  obtain ⟨j0, j1, j2⟩ := HD4.out.c
  have n0 := HQ4.out.c.1
  clear hG3 hC3 hd3 hP4 hC4 HQ HD HF HC HFi HU0
  go_wp2_with (fail)
  clear hw4 hf3 hc3 k0 k1 k2 j0 j1 j2 n0
  go_loopw [18] (fun t wr => ∃ r : Nat, r ≤ n ∧ t = .int .u32 r ∧ Hid (Dr wr rb n m (Pd s kd L r)) ∧ Hid (Iq wr qb n kd (fe Bt Bf) sl o) ∧ Hid (D3 wr db qb s rb n) ∧ Hid (Fd wr g Bt Bf L f) ∧ Hid (Ch (fun k => k = rb ∨ k = qb) w wr) ∧ Hid (∀ r', r' < r → scs kd (Pd s kd L r') L = true) ∧ Hid (0 < r → fa n kd L f = 0)) (fun t _ => n - (intOf t).toNat)
  case atStart => exact ⟨0, Nat.zero_le _, rfl, HP4, HQ4, HD4, HF4, HC4, fun r h => by omega, fun h => by omega⟩
  case round =>
    clear HP4 HQ4 HD4 HF4 HC4
    obtain ⟨r, hr, rfl, HP, HQ, HD, HF, HC, HT, HZ⟩ := hrel
    by_cases cc : r < n
    · have hcc : (r : Int) < (n : Int) := by omega
      have hbd : Bd n (Pd s kd L r) := by
        by_cases h0 : r = 0
        · subst h0; exact Bd.zero n s
        · exact pd_bd hn s kd L (fa_in (HZ.out (by omega))) r
      have HS := hide (shorten_any n m rb qb s Bt Bf g kd L f sl o (Pd s kd L r) hk hm hn hlen hbd wr HQ.out HP.out HF.out r1 r2 r3 r6)
      obtain ⟨j0, j1, j2⟩ := HD.out.c
      clear hbd
      go_wp2_with (fail)
      refine HS.out.mono ?_
      rintro e5 w5 ⟨b, E, rfl, hE, hS5, hC5⟩
      have HQ5 : Hid (Iq w5 qb n kd (fe Bt Bf) sl o) := HQ.out.on hC5 (by omega)
      have HD5 : Hid (D3 w5 db qb s rb n) := HD.out.of (hC5.block _ HD.out.lt hne)
      have HF5 := hide (HF.out.on hC5 (by omega) (by omega) (by omega))
      have HC5 : Hid (Ch (fun k => k = rb ∨ k = qb) w w5) := HC.out.trans (hC5.mono (fun k _ h => Or.inl h))
      have HS5 := hide hS5
      have HE := hide hE
      clear hC5 hS5 hE j0 j1 j2 HS HP HQ HD HF HC
      by_cases hE0 : E = 0
      · subst hE0
        obtain ⟨hb, hP5⟩ := HS5.out.1 rfl
        have HP5 : Hid (Dr w5 rb n m (Pd s kd L (r + 1))) := hP5
        have HB := hide hb
        clear hb hP5 HS5
        cases b with
        | true =>
          have HT5 : Hid (∀ r', r' < r + 1 → scs kd (Pd s kd L r') L = true) := fun r' h => by
            by_cases e : r' = r
            · subst e; exact HB.out.symm
            · exact HT.out r' (by omega)
          have HZ5 : Hid (0 < r + 1 → fa n kd L f = 0) := fun _ => HE.out.symm
          clear HT HZ HB HE
          go_wp2
          exact ⟨⟨r + 1, cc, by go_num, HP5, HQ5, HD5, HF5, HC5, HT5, HZ5⟩, by simp [intOf]; omega⟩
        | false =>
          have HN := hide (note_any qb s 2 n kd (fe Bt Bf) sl o w5 HQ5.out)
          have HLn : Hid (Lm (fun a b => P a b ∨ (b = 2 ∧ a = s ∧ ∃ r, r < n ∧ scs kd (Pd s kd L r) L = false)) (nt o s 2)) := (HL.out.nt s 2).ext (fun a b => by
            constructor
            · rintro (h | ⟨h1, h2⟩)
              · exact .inl h
              · exact .inr ⟨h2, h1, r, cc, HB.out.symm⟩
            · rintro (h | ⟨h1, h2, _⟩)
              · exact .inl h
              · exact .inr ⟨h2, h1⟩)
          obtain ⟨k0, k1, k2⟩ := HD5.out.c
          go_wp2_with (fail)
          refine HN.out.mono ?_
          rintro e6 w6 ⟨⟨v6, rfl⟩, hI6, hC6⟩
          have HEn : Hid (Iq w6 qb n kd (fe Bt Bf) sl (nt o s 2) ∧ CY n m rb s kd L f P 0 (nt o s 2) w6 ∧ Ch (fun k => k = rb ∨ k = qb) w w6) :=
            ⟨hI6, ⟨HE.out, fun _ => HLn.out, _, HP5.out.of (hC6.block _ HP5.out.lt r6)⟩, HC5.out.trans (hC6.mono (fun k _ h => Or.inr h))⟩
          clear hI6 hC6 HN HLn HP5 HQ5 HD5 HF5 HC5 HT HZ HB HE k0 k1 k2
          go_wp2
          all_goals go_ret
          all_goals first | exact ⟨0, _, rfl, HEn.out⟩ | exact ⟨0, rfl, _, HEn.out⟩
      · have hEb : (E != 0) = true := by simpa using hE0
        have HEn : Hid (Iq w5 qb n kd (fe Bt Bf) sl o ∧ CY n m rb s kd L f P E o w5 ∧ Ch (fun k => k = rb ∨ k = qb) w w5) := ⟨HQ5.out, ⟨HE.out, fun h => absurd h hE0, HS5.out.2⟩, HC5.out⟩
        clear HQ5 HD5 HF5 HC5 HS5 HE hE0 HT HZ
        go_wp2
        all_goals go_ret
        all_goals exact ⟨E, _, rfl, HEn.out⟩
    · have hrn : n = r := by omega
      subst hrn
      have HEn : Hid (Iq wr qb n kd (fe Bt Bf) sl o ∧ CY n m rb s kd L f P 0 o wr ∧ Ch (fun k => k = rb ∨ k = qb) w wr) := by
        refine ⟨HQ.out, ⟨(HZ.out (by omega)).symm, fun _ => HL.out.ext (fun a b => ⟨Or.inl, fun h => ?_⟩), _, HP.out⟩, HC.out⟩
        rcases h with h | ⟨_, _, r', h1, h2⟩
        · exact h
        · rw [HT.out r' h1] at h2; cases h2
      have hcc : ¬ (n : Int) < (n : Int) := by omega
      clear HP HQ HD HF HC HT HZ
      go_wp2
      all_goals go_ret
      all_goals first | exact ⟨0, _, rfl, HEn.out⟩ | exact ⟨0, rfl, _, HEn.out⟩
end Au
end Go.Proofs.Ytcepfmeoeepjdaa
