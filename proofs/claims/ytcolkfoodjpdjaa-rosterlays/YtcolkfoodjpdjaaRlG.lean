import Derived.Test.YtcolkfoodjpdjaaRlF
namespace Go.Proofs.Ytcolkfoodjpdjaa
namespace Rl
open Go.RowKit Ra
set_option linter.unusedVariables false
theorem lr_shape {w : World} {B : Nat} {v : Value} {L : List En} (h : LR w B v L) : ∃ wa wc, v = .slice wa L.length wc := by
  rcases h.2 with ⟨rfl, hn⟩ | ⟨g, cap, cur, rfl, _⟩
  · exact ⟨none, 0, by rw [hn]⟩
  · exact ⟨_, _, rfl⟩
theorem lr_on {w w' : World} {B : Nat} {v : Value} {L : List En} (h : LR w B v L) (hb : Below w.heap.size w w') : LR w' B v L := own_on h hb
/-- What stands while sections are laid. -/
def LS (w : World) (bA bB : Nat) (nA nB : Nat → ByteArray) (m l : Nat) (v : Value) (R : List Sc) (xs : List Value) (wr : World) : Prop :=
  SL wr w.heap.size v R xs ∧ MP wr bA nA m ∧ MP wr bB nB l ∧ Below w.heap.size w wr
theorem LS.on {w wr W : World} {bA bB m l : Nat} {nA nB : Nat → ByteArray} {v : Value} {R : List Sc} {xs : List Value} (h : LS w bA bB nA nB m l v R xs wr) (hb : Below wr.heap.size wr W) : LS w bA bB nA nB m l v R xs W :=
  ⟨h.1.on hb, h.2.1.on hb, h.2.2.1.on hb, h.2.2.2.trans (hb.mono h.2.2.2.size)⟩
/-- One section more. -/
theorem LS.step {w wr X w4 : World} {bA bB m l n : Nat} {nA nB : Nat → ByteArray} {v v' u : Value} {R : List Sc} {xs : List Value} {nm : ByteArray} {es : List En} (h : LS w bA bB nA nB m l v R xs wr) (hn : R.length = n) (hB : Below wr.heap.size wr X) (hu : LR X wr.heap.size u es) (hg : X.grownBy w4 v.ownBlock)
    (hown : w4.ownsRow w.heap.size 37 2 v' (n + 1) (xs ++ [.string nm, u])) : LS w bA bB nA nB m l v' (R ++ [(nm, es)]) (xs ++ [.string nm, u]) w4 := by
  have hX := h.on hB
  have hs := hX.2.2.2.size
  refine ⟨h.1.step hn hB h.2.2.2.size hu hg hown, hX.2.1.kept hg (hX.2.1.ne_own hX.1.1), hX.2.2.1.kept hg (hX.2.2.1.ne_own hX.1.1), ?_⟩
  exact hX.2.2.2.grown hg hs (fun j hj => (World.ownsRow.lt hX.1.1 j hj).1)
/-- Two lists' cells. -/
abbrev C2 (g : Nat) (y : Addr) (j : Nat) (a : Option Addr) (l c : Nat) (b : Option Addr) (m d : Nat) (W : World) : Prop :=
  W.cell? ⟨g, 1, none⟩ = some (.slice a l c) ∧ W.cell? ⟨(y.add (j * 2)).block, (y.add (j * 2)).off + 1, none⟩ = some (.slice b m d)
/-- A section's cells. -/
abbrev C1 (g : Nat) (nm : ByteArray) (b : Option Addr) (m d : Nat) (W : World) : Prop :=
  W.cell? ⟨g, 0, none⟩ = some (.string nm) ∧ W.cell? ⟨g, 1, none⟩ = some (.slice b m d)
set_option maxHeartbeats 3200000 in
set_option maxRecDepth 8000 in
theorem lay_any (a b : Option Addr) (l c m d : Nat) (D O : Nat → Dt) (w : World) (hl : cnt D l ≤ 100000) (hm : cnt O m ≤ 100000) (hD : Bd D l) (hO : Bd O m) (h1 : SRow w a l D) (h2 : SRow w b m O) :
    Calls Try.prog 11 #[.slice a l c, .slice b m d] w fun e w' => ∃ v xs, e = .returned v ∧ SL w' w.heap.size v (layS D l O m) xs ∧ Below w.heap.size w w' := by
  have hll := cnt_ge D l
  have hmm := cnt_ge O m
  have H1 : Hid (SRow w a l D) := h1
  have H2 : Hid (SRow w b m O) := h2
  have HA : Hid (Calls Try.prog 17 #[.slice b m d, .func (.func 18) #[] #[]] w fun e w' => e = .returned (.map (some w.heap.size)) ∧ MP w' w.heap.size (fun i => (O i).nm) m ∧ Below w.heap.size w w') := firsts_sec b m d O w (by omega) (fun i hi => (hO i hi).1) h2
  have HB : Hid (∀ W, Below w.heap.size w W → Calls Try.prog 17 #[.slice a l c, .func (.func 18) #[] #[]] W fun e w' => e = .returned (.map (some W.heap.size)) ∧ MP w' W.heap.size (fun i => (D i).nm) l ∧ Below W.heap.size W w') := fun W hW => firsts_sec a l c D W (by omega) (fun i hi => (hD i hi).1) (h1.on hW)
  clear h1 h2
  go_enter Try.func11, Try.ntmps11
  go_wp2_with (fail)
  refine HA.out.mono ?_
  rintro e1 w1 ⟨rfl, hM1, hB1⟩
  clear HA
  go_wp2_with (fail)
  refine (HB.out _ hB1).mono ?_
  rintro e2 w2 ⟨rfl, hM2, hB2⟩
  have HL0 : Hid (LS w w.heap.size w1.heap.size (fun i => (O i).nm) (fun i => (D i).nm) m l (.slice none 0 0) [] [] w2) := ⟨SL.nil _ _, hM1.on hB2, hM2, hB1.trans (hB2.mono hB1.size)⟩
  clear HB hM1 hB1 hM2 hB2
  go_wp2
  go_loopw [7, 23] (fun v i wr => ∃ (k : Nat) (xs : List Value), k ≤ l ∧ i = .int .i64 k ∧ LS w w.heap.size w1.heap.size (fun i => (O i).nm) (fun i => (D i).nm) m l v (s1 D O m k) xs wr) (fun _ i _ => l - (intOf i).toNat)
  case atStart => exact ⟨0, [], Nat.zero_le _, rfl, HL0.out⟩
  case round =>
    obtain ⟨k, xs, hk, rfl, hLS⟩ := hrel
    by_cases hlt : k < l
    · obtain ⟨x, rfl, hx⟩ := H1.out (by omega)
      have hBw := hLS.2.2.2
      have hsz := hBw.size
      obtain ⟨p0, a1, c1, p1, hn1, e1⟩ := (hx.on hBw).2 k hlt
      obtain ⟨P0, P1⟩ := cells2 ⟨p0, p1⟩
      have hck := cnt_at D hlt
      have hDk := hD k hlt
      have hp := s1_len D O m k
      clear hx p0 p1
      have HLS : Hid (LS w w.heap.size w1.heap.size (fun i => (O i).nm) (fun i => (D i).nm) m l u7 (s1 D O m k) xs wr) := hLS
      have hB9 : Below wr.heap.size wr (wr.alloc (.cells #[.string (D k).nm, .slice a1 (D k).l c1] 37)) := (Below.refl _ _).alloc (Nat.le_refl _) _
      have b9 : (wr.alloc (.cells #[.string (D k).nm, .slice a1 (D k).l c1] 37)).heap[wr.heap.size]? = some (.cells #[.string (D k).nm, .slice a1 (D k).l c1] 37 (0, 0)) := World.alloc_heap_new wr _
      clear hLS
      go_wp2_with (fail)
      refine (clone_any a1 (D k).l c1 (D k).E _ (by omega) hn1 (e1.on hB9)).mono ?_
      rintro e3 w3 ⟨uu, rfl, hu3, hB3⟩
      obtain ⟨ua, uc, rfl⟩ := lr_shape hu3
      rw [el_len] at hu3 ⊢
      have hlt9 : wr.heap.size < w3.heap.size := by have := hB3.size; simp at this; omega
      have hB4 : Below wr.heap.size wr w3 := hB9.trans (hB3.mono (by simp))
      replace b9 := (hB3.block wr.heap.size (by simp)).trans b9
      have hs4 := hB4.size
      have T0 : w3.cell? ⟨wr.heap.size, 0, none⟩ = some (.string (D k).nm) := by simp [World.cell?, b9]
      have T1 : w3.cell? ⟨wr.heap.size, 1, none⟩ = some (.slice a1 (D k).l c1) := by simp [World.cell?, b9]
      have hL := (HLS.out.on hB4).2.1.look (D k).nm hDk.1
      have HX : Hid (∀ W, Below w3.heap.size w3 W → LS w w.heap.size w1.heap.size (fun i => (O i).nm) (fun i => (D i).nm) m l u7 (s1 D O m k) xs W ∧ Below wr.heap.size wr W) := fun W hW => ⟨(HLS.out.on hB4).on hW, hB4.trans (hW.mono hs4)⟩
      have hb3s : (wr.alloc (.cells #[.string (D k).nm, .slice a1 (D k).l c1] 37)).heap.size = wr.heap.size + 1 := by simp
      cases hf : fsti (fun j => (O j).nm) m (D k).nm with
      | none =>
        rw [hf, got_none] at hL
        have HU : Hid (sec1 D O m k = ((D k).nm, el (D k).E (D k).l)) := by show ((D k).nm, _) = _; rw [hf]
        have HUU : Hid (LR w3 wr.heap.size (.slice ua (D k).l uc) (el (D k).E (D k).l)) := own_base hu3 (by omega)
        clear hu3 hB9 hB3 b9 e1 hn1 hBw hb3s hf
        obtain ⟨nk, HN⟩ : ∃ nk, Hid ((D k).nm = nk) := ⟨_, rfl⟩
        obtain ⟨lk, HK⟩ : ∃ lk, Hid ((D k).l = lk) := ⟨_, rfl⟩
        obtain ⟨es, HS⟩ : ∃ es, Hid (el (D k).E (D k).l = es) := ⟨_, rfl⟩
        rw [HS.out] at HUU HU
        rw [HN.out] at T0 P0 hL HU ⊢
        rw [HK.out] at P1 T1 hck HUU ⊢
        have HO := hid (HX.out w3 (Below.refl _ _)).1.1.1
        rw [hp] at HO
        go_wp2_with (at_builtin; refine wpList_append2 tpS rfl _ _ rfl w.heap.size _ _ k 1 xs [.string nk, .slice ua lk uc] rfl (HO.out.alloc _) rfl (src_new _ _ _ _ rfl rfl _) (by omega) (by simp; omega) ?_)
        intro v' w5 hown' hgr' _
        have HNx : Hid (LS w w.heap.size w1.heap.size (fun i => (O i).nm) (fun i => (D i).nm) m l v' (s1 D O m (k + 1)) (xs ++ [.string nk, .slice ua lk uc]) w5) := by
          show LS _ _ _ _ _ _ _ _ (s1 D O m k ++ [sec1 D O m k]) _ _
          rw [HU.out]
          exact HLS.out.step hp (hB4.alloc hs4 _) (World.ownsRow.alloc HUU.out _) hgr' hown'
        clear hown' hgr' HLS HO hL HX hB4
        go_wp2
        exact ⟨⟨k + 1, _, by omega, by go_num, HNx.out⟩, by simp [intOf]; omega⟩
      | some j =>
        rw [hf, got_some] at hL
        have hj := fsti_lt hf
        have hcj := cnt_at O hj
        have hOj := hO j hj
        obtain ⟨y, rfl, hy⟩ := H2.out (by omega)
        have hBw3 : Below w.heap.size w w3 := hBw.trans (hB4.mono hsz)
        have hy3 := hy.on hBw3
        obtain ⟨q0, b1, d1, q1, hnb, f1⟩ := hy3.2 j hj
        obtain ⟨Q0, Q1⟩ := cells2 ⟨q0, q1⟩
        have e13 : ERow w3 a1 (D k).l (D k).E := e1.on hB4
        have HU : Hid (sec1 D O m k = ((D k).nm, layE (D k).E (D k).l (O j).E (O j).l)) := by show ((D k).nm, _) = _; rw [hf]
        have HC : Hid (∀ W, Below w3.heap.size w3 W → Calls Try.prog 20 #[.slice a1 (D k).l c1, .slice b1 (O j).l d1] W fun e w' => ∃ v, e = .returned v ∧ LR w' W.heap.size v (layE (D k).E (D k).l (O j).E (O j).l) ∧ Below W.heap.size W w') := fun W hW => lay_ents a1 b1 (D k).l c1 (O j).l d1 (D k).E (O j).E W (by omega) (by omega) hDk.2 hOj.2 (e13.on hW) (f1.on hW)
        have hyb := hy3.1
        have HD : Hid (∀ n, Below w3.heap.size w3 (w3.drewN n)) := fun n => below_drew (Below.refl _ _) n
        have HS0 : Hid (∀ W, Below w3.heap.size w3 W → C2 wr.heap.size y j a1 (D k).l c1 b1 (O j).l d1 W) := fun W hW => ⟨(hW.cell (p := ⟨wr.heap.size, 1, none⟩) hlt9).trans T1, (hW.cell (p := ⟨(y.add (j * 2)).block, (y.add (j * 2)).off + 1, none⟩) (by rw [add_block]; exact hyb)).trans Q1⟩
        have HT0 : Hid (∀ W, Below w3.heap.size w3 W → W.cell? ⟨wr.heap.size, 0, none⟩ = some (.string (D k).nm)) := fun W hW => (hW.cell (p := ⟨wr.heap.size, 0, none⟩) hlt9).trans T0
        clear hu3 hB9 hB3 b9 e1 hn1 hBw hb3s hf hy hy3 q0 q1 f1 e13 hBw3 hnb Q0
        obtain ⟨nk, HN⟩ : ∃ nk, Hid ((D k).nm = nk) := ⟨_, rfl⟩
        obtain ⟨lk, HK⟩ : ∃ lk, Hid ((D k).l = lk) := ⟨_, rfl⟩
        obtain ⟨mj, HM⟩ : ∃ mj, Hid ((O j).l = mj) := ⟨_, rfl⟩
        obtain ⟨es, HS⟩ : ∃ es, Hid (layE (D k).E (D k).l (O j).E (O j).l = es) := ⟨_, rfl⟩
        rw [HS.out] at HU HC
        rw [HN.out] at T0 P0 hL HU HT0 ⊢
        rw [HK.out] at P1 T1 hck HC HS0 ⊢
        rw [HM.out] at Q1 HC HS0 hcj
        go_wp2_with (fail)
        go_region_held3 (C2 wr.heap.size y j a1 lk c1 b1 mj d1) ((first | (exact HS0.out _ hB6) | (exact HS0.out _ (HD.out _))))
          ((go_at_call 20; refine (HC.out _ (HD.out _)).mono ?_; rintro e6 w6 ⟨u6, rfl, hu6, hB6'⟩; have hB6 : Below w3.heap.size w3 w6 := (HD.out _).trans hB6'))
        obtain ⟨va, vc, rfl⟩ := lr_shape hu6
        have HUU : Hid (LR w6 wr.heap.size (.slice va es.length vc) es) := own_base hu6 (by simp; omega)
        have T06 := HT0.out _ hB6
        have hBr6 := (HX.out w6 hB6).2
        have hs6 := hBr6.size
        have HO := hid (HX.out w6 hB6).1.1.1
        rw [hp] at HO
        clear hu6 hB6' HC HS0 HT0 HD hL T0 T1 Q1 P0 P1
        go_wp2_with (at_builtin; refine wpList_append2 tpS rfl _ _ rfl w.heap.size _ _ k 1 xs [.string nk, .slice va es.length vc] rfl (HO.out.alloc _) rfl (src_new _ _ _ _ rfl rfl _) (by omega) (by simp; omega) ?_)
        intro v' w7 hown' hgr' _
        have HNx : Hid (LS w w.heap.size w1.heap.size (fun i => (O i).nm) (fun i => (D i).nm) m l v' (s1 D O m (k + 1)) (xs ++ [.string nk, .slice va es.length vc]) w7) := by
          show LS _ _ _ _ _ _ _ _ (s1 D O m k ++ [sec1 D O m k]) _ _
          rw [HU.out]
          exact HLS.out.step hp (hBr6.alloc hs6 _) (World.ownsRow.alloc HUU.out _) hgr' hown'
        clear hown' hgr' HLS HO HX hB4 hBr6
        go_wp2
        exact ⟨⟨k + 1, _, by omega, by go_num, HNx.out⟩, by simp [intOf]; omega⟩
    · obtain rfl : k = l := by omega
      have HLS1 : Hid (LS w w.heap.size w1.heap.size (fun i => (O i).nm) (fun i => (D i).nm) m k u7 (s1 D O m k) xs wr) := hLS
      have hp := s1_len D O m k
      clear hLS HL0
      go_wp2
      go_loopw [7, 56] (fun v i wr => ∃ (j : Nat) (xs : List Value), j ≤ m ∧ i = .int .i64 j ∧ LS w w.heap.size w1.heap.size (fun i => (O i).nm) (fun i => (D i).nm) m k v (s1 D O m k ++ s2 D O k j) xs wr) (fun _ i _ => m - (intOf i).toNat)
      case atStart => exact ⟨0, xs, Nat.zero_le _, rfl, by simpa [s2] using HLS1.out⟩
      case round =>
        clear HLS1
        obtain ⟨j, xs, hj, rfl, hLS⟩ := hrel
        by_cases hjm : j < m
        · obtain ⟨y, rfl, hy⟩ := H2.out (by omega)
          have hBw := hLS.2.2.2
          have hsz := hBw.size
          obtain ⟨p0, b1, d1, p1, hn1, e1⟩ := (hy.on hBw).2 j hjm
          obtain ⟨P0, P1⟩ := cells2 ⟨p0, p1⟩
          have hcj := cnt_at O hjm
          have hOj := hO j hjm
          have hp2 := s2_len D O k j
          clear hy p0 p1
          have HLS : Hid (LS w w.heap.size w1.heap.size (fun i => (O i).nm) (fun i => (D i).nm) m k u7 (s1 D O m k ++ s2 D O k j) xs wr) := hLS
          have hB9 : Below wr.heap.size wr (wr.alloc (.cells #[.string (O j).nm, .slice b1 (O j).l d1] 37)) := (Below.refl _ _).alloc (Nat.le_refl _) _
          have b9 : (wr.alloc (.cells #[.string (O j).nm, .slice b1 (O j).l d1] 37)).heap[wr.heap.size]? = some (.cells #[.string (O j).nm, .slice b1 (O j).l d1] 37 (0, 0)) := World.alloc_heap_new wr _
          have hL := (hLS.on hB9).2.2.1.look (O j).nm hOj.1
          clear hLS
          cases hf : fsti (fun i => (D i).nm) k (O j).nm with
          | some i =>
            rw [hf, got_some] at hL
            have HU : Hid (s2 D O k (j + 1) = s2 D O k j) := by show s2 D O k (j + 1) = _; unfold s2; rw [hf]; cases j <;> rfl
            have HN : Hid (LS w w.heap.size w1.heap.size (fun i => (O i).nm) (fun i => (D i).nm) m k u7 (s1 D O m k ++ s2 D O k (j + 1)) xs (wr.alloc (.cells #[.string (O j).nm, .slice b1 (O j).l d1] 37))) := by
              show LS _ _ _ _ _ _ _ _ _ _ _
              rw [HU.out]; exact HLS.out.on hB9
            generalize (O j).nm = nj at *
            generalize (O j).l = lj at *
            clear HLS e1 hn1 b9 hB9
            go_wp2
            exact ⟨⟨j + 1, xs, by omega, by go_num, HN.out⟩, by simp [intOf]; omega⟩
          | none =>
            rw [hf, got_none] at hL
            have HU : Hid (s2 D O k (j + 1) = s2 D O k j ++ [((O j).nm, el (O j).E (O j).l)]) := by show s2 D O k (j + 1) = _; conv => lhs; unfold s2; rw [hf]
            have hq : (s1 D O m k ++ s2 D O k j).length = k + (s2 D O k j).length := by rw [List.length_append, hp]
            have e19 := e1.on hB9
            have HC : Hid (∀ W, Below (wr.alloc (.cells #[.string (O j).nm, .slice b1 (O j).l d1] 37)).heap.size (wr.alloc (.cells #[.string (O j).nm, .slice b1 (O j).l d1] 37)) W → Calls Try.prog 19 #[.slice b1 (O j).l d1] W fun e w' => ∃ va vc, e = .returned (.slice va (O j).l vc) ∧ LR w' W.heap.size (.slice va (O j).l vc) (el (O j).E (O j).l) ∧ Below W.heap.size W w') := fun W hW =>
              (clone_any b1 (O j).l d1 (O j).E W (by omega) hn1 (e19.on hW)).mono fun e w' ⟨v, h1, h2, h3⟩ => by
                obtain ⟨va, vc, rfl⟩ := lr_shape h2
                rw [el_len] at h1 h2
                exact ⟨va, vc, h1, h2, h3⟩
            have HS0 : Hid (∀ W, W.heap[wr.heap.size]? = some (.cells #[.string (O j).nm, .slice b1 (O j).l d1] 37 (0, 0)) → C1 wr.heap.size (O j).nm b1 (O j).l d1 W) := fun W hW => ⟨by simp [World.cell?, hW], by simp [World.cell?, hW]⟩
            have HB9 : Hid ((wr.alloc (.cells #[.string (O j).nm, .slice b1 (O j).l d1] 37)).heap[wr.heap.size]? = some (.cells #[.string (O j).nm, .slice b1 (O j).l d1] 37 (0, 0))) := b9
            have HW9 : Hid (Below wr.heap.size wr (wr.alloc (.cells #[.string (O j).nm, .slice b1 (O j).l d1] 37))) := hB9
            clear e1 e19 hn1 hf b9 hB9 hBw
            obtain ⟨nj, HN⟩ : ∃ nj, Hid ((O j).nm = nj) := ⟨_, rfl⟩
            obtain ⟨lj, HK⟩ : ∃ lj, Hid ((O j).l = lj) := ⟨_, rfl⟩
            obtain ⟨es, HS⟩ : ∃ es, Hid (el (O j).E (O j).l = es) := ⟨_, rfl⟩
            rw [HS.out] at HU HC
            rw [HN.out] at P0 hL HU HC HS0 HB9 HW9
            rw [HK.out] at P1 hcj HC HS0 HB9 HW9 hL
            have b9s : (wr.alloc (.cells #[.string nj, .slice b1 lj d1] 37)).heap.size = wr.heap.size + 1 := by simp
            have HD : Hid (∀ n, Below (wr.alloc (.cells #[.string nj, .slice b1 lj d1] 37)).heap.size (wr.alloc (.cells #[.string nj, .slice b1 lj d1] 37)) ((wr.alloc (.cells #[.string nj, .slice b1 lj d1] 37)).drewN n)) := fun n => below_drew (Below.refl _ _) n
            have HO6 : Hid (∀ w6, Below (wr.alloc (.cells #[.string nj, .slice b1 lj d1] 37)).heap.size (wr.alloc (.cells #[.string nj, .slice b1 lj d1] 37)) w6 → w6.ownsRow w.heap.size 37 2 u7 (k + (s2 D O k j).length) xs ∧ Below wr.heap.size wr w6 ∧ w6.heap[wr.heap.size]? = some (.cells #[.string nj, .slice b1 lj d1] 37 (0, 0)) ∧ wr.heap.size < w6.heap.size ∧ w.heap.size ≤ w6.heap.size) := fun w6 h6 => by
              have h7 : Below wr.heap.size wr w6 := HW9.out.trans (h6.mono (by omega))
              have h8 := (HLS.out.on h7).1.1
              rw [hq] at h8
              have h9 := h6.size
              exact ⟨h8, h7, (h6.block _ (by omega)).trans HB9.out, by omega, by omega⟩
            have HNE : Hid (some wr.heap.size ≠ u7.ownBlock) := fun e => by have := (World.ownsRow.lt HLS.out.1.1 _ e.symm).2; omega
            go_wp2_with (fail)
            go_region_held3 (C1 wr.heap.size nj b1 lj d1) ((first | exact HS0.out _ h9w | exact HS0.out _ ((Below.heap_alloc w6 _ _ h6.2.2.2.1).trans h6.2.2.1) | exact HS0.out _ h6.2.2.1 | exact HS0.out _ HB9.out))
              ((first
                | (go_at_call 19; refine (HC.out _ (HD.out _)).mono ?_; rintro e6 w6 ⟨va, vc, rfl, hu6, hB6'⟩; have hB6 : Below (wr.alloc (.cells #[.string nj, .slice b1 lj d1] 37)).heap.size (wr.alloc (.cells #[.string nj, .slice b1 lj d1] 37)) w6 := (HD.out _).trans hB6'; have h6 := HO6.out _ hB6)
                | (refine step_append2 tpS (by rfl) _ _ (by rfl) w.heap.size u7 _ (k + (s2 D O k j).length) 1 xs [.string nj, .slice va lj vc] (by rfl) (h6.1.alloc _) (by rfl) (src_new _ _ _ _ rfl rfl _) (by omega) (by have := h6.2.2.2.2; simp; omega) ?_; intro v7 w7 hown7 hgr7 hat7; have h9w := (hgr7.block wr.heap.size (Nat.lt_of_lt_of_le h6.2.2.2.1 (by simp)) HNE.out).trans ((Below.heap_alloc w6 _ _ h6.2.2.2.1).trans h6.2.2.1))))
            have HUU : Hid (LR w6 wr.heap.size (.slice va lj vc) es) := own_base hu6 (by simp)
            have HNx : Hid (LS w w.heap.size w1.heap.size (fun i => (O i).nm) (fun i => (D i).nm) m k v7 (s1 D O m k ++ s2 D O k (j + 1)) (xs ++ [.string nj, .slice va lj vc]) w7) := by
              show LS _ _ _ _ _ _ _ _ _ _ _
              rw [HU.out, ← List.append_assoc]
              exact HLS.out.step hq (h6.2.1.alloc (Nat.le_of_lt h6.2.2.2.1) _) (World.ownsRow.alloc HUU.out _) hgr7 hown7
            clear hown7 hgr7 HLS hL HC HO6 HS0 HB9 HW9 h6 hB6 hB6' hu6
            go_wp2
            exact ⟨⟨j + 1, _, by omega, by go_num, HNx.out⟩, by simp [intOf]; omega⟩
        · obtain rfl : j = m := by omega
          go_wp2
          go_ret
          exact ⟨_, _, rfl, hLS.1, hLS.2.2.2⟩
end Rl
end Go.Proofs.Ytcolkfoodjpdjaa
