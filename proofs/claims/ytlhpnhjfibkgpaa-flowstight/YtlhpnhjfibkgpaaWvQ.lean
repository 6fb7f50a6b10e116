import Derived.Test.YtlhpnhjfibkgpaaWvL
namespace Go.Proofs.Ytlhpnhjfibkgpaa
namespace Wp
open Go.RowKit
set_option linter.unusedVariables false
set_option maxRecDepth 8000
theorem make_truth32 (w : World) (n : Nat) (hn : n ≤ 1000000) : (Instr.makeSlice 66 (.int .u32 (n : Int)) (.int .u32 (n : Int))).run Try.prog w = .ok (.slice (some ⟨w.heap.size, 0, none⟩) n n) (w.alloc (.cells (madeCells #[.bool false] n) 4)) := by
  have h := infoT
  cases hh : Try.prog.info? 4 with
  | none => rw [hh] at h; cases h
  | some i =>
    rw [hh] at h
    simp at h
    have hr := run_make (P := Try.prog) w 66 4 i (.bool false) Try.underlying66 hh h.1 .u32 .u32 n n (by omega) (by omega) (by rw [h.2.2]; omega) (by omega)
    rw [h.2.1] at hr
    simp only [Int.toNat_natCast, Nat.mul_one] at hr
    rw [hr]
    rfl
theorem info_t : ∃ i0, Try.prog.info? 4 = some i0 ∧ i0.zero = some (.bool false) ∧ i0.size = 1 ∧ i0.bytes = 1 := by
  have h := infoT
  cases hh : Try.prog.info? 4 with
  | none => rw [hh] at h; cases h
  | some i => rw [hh] at h; simp at h; exact ⟨i, rfl, h.1, h.2.1, h.2.2⟩
def ctr (G : Nat → Bool) : Nat → List Value
  | 0 => []
  | k + 1 => ctr G k ++ [.bool (G k)]
theorem ctr_len (G : Nat → Bool) (k : Nat) : (ctr G k).length = k := by
  induction k with
  | zero => rfl
  | succ k ih => simp only [ctr, List.length_append, ih]; rfl
theorem ctr_get (G : Nat → Bool) (k i : Nat) (hi : i < k) : (ctr G k)[i]? = some (.bool (G i)) := by
  induction k with
  | zero => omega
  | succ k ih =>
    simp only [ctr]
    by_cases h : i < k
    · rw [List.getElem?_append_left (by rw [ctr_len]; omega)]; exact ih h
    · have hk : i = k := by omega
      subst hk
      rw [List.getElem?_append_right (by rw [ctr_len]; omega), ctr_len, Nat.sub_self]; rfl
theorem ctr_one (G : Nat → Bool) (k : Nat) : ∀ u ∈ ctr G k, u.oneCell' = true := by
  induction k with
  | zero => intro u hu; simp [ctr] at hu
  | succ k ih =>
    intro u hu
    simp only [ctr, List.mem_append, List.mem_singleton] at hu
    rcases hu with h | h
    · exact ih u h
    · subst h; rfl
theorem own_gt {w : World} {B : Nat} {v : Value} {n : Nat} {G : Nat → Bool} (h : w.ownsRow B 4 1 v n (ctr G n)) (hn : 0 < n) : ∃ g cap, v = .slice (some ⟨g, 0, none⟩) n cap ∧ B ≤ g ∧ GT w g n G := by
  obtain ⟨h1, h2⟩ := h
  rcases h2 with ⟨rfl, h0⟩ | ⟨g, cap, cur, rfl, h3, h4, h5, h6, h7, h8⟩
  · omega
  · refine ⟨g, cap, rfl, h3, cur, h4, fun u hu => ?_⟩
    have hg := ctr_get G n u hu
    rw [← h8, List.getElem?_take, if_pos (by omega)] at hg
    simpa using hg
theorem own4 (w : World) : (w.alloc (.cells #[] 4)).ownsRow w.heap.size 4 1 (.slice (some ⟨w.heap.size, 0, none⟩) 0 0) 0 [] :=
  ⟨rfl, Or.inr ⟨w.heap.size, 0, #[], rfl, Nat.le_refl _, at0 w _, Nat.le_refl _, by unfold maxLen; omega, rfl, rfl⟩⟩
theorem wpList_copyT {w : World} {ops : Array Oper} {rest : List Oper} {o : Oper} {a : Act} {Q : Exit → Act → World → Prop} (hgd : o.guard = none) (s x : Operand)
    (ho : o.op = .call { callee := .builtin .append, args := #[s, x], argTypes := #[66, 66] }) (v : Value) (b n c B : Nat) (G : Nat → Bool) (hs : a.eval s = v) (hown : w.ownsRow B 4 1 v 0 [])
    (hx : a.eval x = .slice (some ⟨b, 0, none⟩) n c) (hG : GT w b n G) (hn : n ≤ 1000000) (hbase : B ≤ w.heap.size)
    (h : ∀ v' w', w'.ownsRow B 4 1 v' n (ctr G n) → w.grownBy w' v.ownBlock → wpList Try.prog ops Q rest (a.put o.dst v') w') : wpList Try.prog ops Q (o :: rest) a w := by
  obtain ⟨i0, hi, hz0, hz1, hz2⟩ := info_t
  exact wpList_append_own_at w hgd s x 66 ho B 4 i0 (.bool false) 1 1 Try.underlying66 hi hz0 hz1 hz2 rfl (by decide) v 0 [] hs hown ⟨b, 0, none⟩ n c (ctr G n) hx (by rw [ctr_len]; omega) (fun j u hj => by
    have hl := (List.getElem?_eq_some_iff.1 hj).1
    rw [ctr_len] at hl
    rw [ctr_get G n j hl] at hj
    cases hj
    rw [addz]; exact hG.cell j hl) (ctr_one G n) (by unfold maxLen; omega) (by omega) hbase (fun v' w' h2 h3 _ h5 => h v' w' (by simpa using h2) h3)
/-- Distances, and who has one. -/
def Fl (n : Nat) (P A : Nat → Int) (H : Nat → Bool) : Prop := ∀ v, v < n → (H v = true ∧ A v = P v ∧ P v ≠ 9223372036854775807) ∨ (H v = false ∧ P v = 9223372036854775807)
/-- d, there, x, y as they lie. -/
structure Fq (w0 w : World) (base db tb xb yb n : Nat) (A : Nat → Int) (H : Nat → Bool) (X : Nat → Int) (Y : Nat → Bool) : Prop where
  d : GL w db n A
  t : GT w tb n H
  x : GL w xb n X
  y : GT w yb n Y
  b : Below base w0 w
  n1 : db ≠ xb ∧ db ≠ yb ∧ tb ≠ xb ∧ tb ≠ yb ∧ xb ≠ yb
  n2 : base ≤ xb ∧ base ≤ yb
section
variable {w0 w w' : World} {base db tb xb yb n : Nat} {A : Nat → Int} {H : Nat → Bool} {X : Nat → Int} {Y : Nat → Bool}
theorem Fq.on (h : Fq w0 w base db tb xb yb n A H X Y) (hb : Below w.heap.size w w') : Fq w0 w' base db tb xb yb n A H X Y :=
  ⟨h.d.on hb, h.t.on hb, h.x.on hb, h.y.on hb, h.b.trans (hb.mono (by have := h.x.lt; have := h.n2.1; omega)), h.n1, h.n2⟩
theorem Fq.setX (h : Fq w0 w base db tb xb yb n A H X Y) (v : Nat) (z : Int) : Fq w0 (w.setCell ⟨xb, v, none⟩ (.int .i64 z)) base db tb xb yb n A H (up X v z) Y := by
  obtain ⟨h1, C, h2⟩ := h.x.set v z
  refine ⟨h.d.of ?_, h.t.of ?_, h1, h.y.of ?_, by rw [h2]; exact below_setRow h.b h.n2.1 _, h.n1, h.n2⟩
  · rw [h2]; exact setRow_other w xb db C h.n1.1
  · rw [h2]; exact setRow_other w xb tb C h.n1.2.2.1
  · rw [h2]; exact setRow_other w xb yb C (fun e => h.n1.2.2.2.2 e.symm)
theorem Fq.setY (h : Fq w0 w base db tb xb yb n A H X Y) (v : Nat) : Fq w0 (w.setCell ⟨yb, v, none⟩ (.bool true)) base db tb xb yb n A H X (fun u => if u = v then true else Y u) := by
  obtain ⟨h1, C, h2⟩ := h.y.set v true
  refine ⟨h.d.of ?_, h.t.of ?_, h.x.of ?_, h1, by rw [h2]; exact below_setRow h.b h.n2.2 _, h.n1, h.n2⟩
  · rw [h2]; exact setRow_other w yb db C h.n1.2.1
  · rw [h2]; exact setRow_other w yb tb C h.n1.2.2.2.1
  · rw [h2]; exact setRow_other w yb xb C h.n1.2.2.2.2
end
abbrev Sf (tb yb db xb eb x y p : Nat) (h : Bool) (g : Bool) (a b z : Int) (w : World) : Prop := w.cell? ⟨tb, x, none⟩ = some (.bool h) ∧ w.cell? ⟨yb, y, none⟩ = some (.bool g) ∧ w.cell? ⟨db, x, none⟩ = some (.int .i64 a) ∧ w.cell? ⟨xb, y, none⟩ = some (.int .i64 b) ∧ w.cell? ⟨eb, p, none⟩ = some (.int .u32 z)
abbrev Sk (db eb x p : Nat) (a z : Int) (w : World) : Prop := w.cell? ⟨db, x, none⟩ = some (.int .i64 a) ∧ w.cell? ⟨eb, p, none⟩ = some (.int .u32 z)
set_option maxHeartbeats 4000000 in
theorem falls_any (n m s c : Nat) (a : Option Addr) (E : Nat → Int × Int × Int) (h1n : 1 ≤ n) (hn : n ≤ 400) (hm : m ≤ 11728124029610) (hs : s < n) (w : World) (hE : ERow w a m E) (hI : EIn n m E)
    (hch : ∀ r, r < n → ∃ v, v < n ∧ Dd m s 2 E (r + 1) v ≠ Dd m s 2 E r v) :
    Calls Try.prog 21 #[.int .u32 (n : Int), .int .u32 (s : Int), .slice a m c] w fun e w' => e = .returned (.bool true) ∧ Below w.heap.size w w' := by
  have HE := hide hE
  have HI := hide hI
  have HCh := hide hch
  have HDb := hide (fun r hr v => dd_b m s 2 (by omega) hI r hr v)
  have hmk := make_num w n (by omega)
  have HG0 := hide (GL.new w n)
  have hmk2 := make_truth32 (w.alloc (.cells (madeCells #[.int .i64 0] n) 2)) n (by omega)
  have HT0 := hide (GT.new (w.alloc (.cells (madeCells #[.int .i64 0] n) 2)) n)
  have HT1 : Hid (GT ((w.alloc (.cells (madeCells #[.int .i64 0] n) 2)).alloc (.cells ((madeCells #[.bool false] n).setIfInBounds s (.bool true)) 4)) (w.heap.size + 1) n (fun v => if v = s then true else false)) := by
    have h1 := at0 (w.alloc (.cells (madeCells #[.int .i64 0] n) 2)) (.cells ((madeCells #[.bool false] n).setIfInBounds s (.bool true)) 4)
    rw [World.size_alloc] at h1
    refine ⟨_, h1, fun v hv => ?_⟩
    rw [Array.getElem?_setIfInBounds]
    have hz : (madeCells #[Value.bool false] n).size = n := by simp [madeCells]
    show _ = some (Value.bool (if v = s then true else false))
    by_cases e : s = v
    · subst e; rw [if_pos rfl, if_pos (by rw [hz]; exact hv), if_pos rfl]
    · rw [if_neg e, if_neg (fun q => e q.symm)]; simp [madeCells, hv, Nat.mod_one]
  have HG2 := hide (HG0.out.on (b1 (w.alloc (.cells (madeCells #[.int .i64 0] n) 2)) 4 ((madeCells #[.bool false] n).setIfInBounds s (.bool true))))
  have HB2 : Hid (Below w.heap.size w ((w.alloc (.cells (madeCells #[.int .i64 0] n) 2)).alloc (.cells ((madeCells #[.bool false] n).setIfInBounds s (.bool true)) 4))) := by repeat first | exact Below.refl _ _ | refine bA ?_ (by first | exact Nat.le_refl _ | (simp only [World.size_alloc]; omega)) _
  rw [World.size_alloc] at hmk2 HT0
  generalize madeCells #[.int .i64 0] n = mc at *
  generalize madeCells #[.bool false] n = md at *
  have hf := HT0.out.fz s
  have hc := HT0.out.cell s hs
  have HF0 : Hid (Fl n (Dd m s 2 E 0) (fun _ => 0) (fun v => if v = s then true else false)) := fun v hv => by
    by_cases e : v = s
    · left; exact ⟨if_pos e, (show (0 : Int) = if v = s then 0 else 9223372036854775807 by rw [if_pos e]), (show (if v = s then (0 : Int) else 9223372036854775807) ≠ _ by rw [if_pos e]; decide)⟩
    · right; exact ⟨if_neg e, (show (if v = s then (0 : Int) else 9223372036854775807) = _ by rw [if_neg e])⟩
  clear hE hI hch HG0 HT0
  go_enter Try.func21, Try.ntmps21
  go_wp2_with (fail)
  clear hmk hmk2 hf hc
  generalize (w.alloc (.cells mc 2)).alloc (.cells (md.setIfInBounds s (.bool true)) 4) = w1 at *
  generalize hB0 : w.heap.size = B at *
  have HB0 := hide hB0
  clear hB0
  go_loopw [7, 8, 9, 10] (fun dv tv lv t wr => ∃ (rr db tb cd ct : Nat) (A : Nat → Int) (H : Nat → Bool) (ls : Bool), rr ≤ n ∧ t = .int .u32 rr ∧ dv = .slice (some ⟨db, 0, none⟩) n cd ∧ tv = .slice (some ⟨tb, 0, none⟩) n ct ∧ lv = .bool ls ∧ (0 < rr → ls = true) ∧ Hid (GL wr db n A) ∧ Hid (GT wr tb n H) ∧ Hid (Fl n (Dd m s 2 E rr) A H) ∧ Hid (Below B w wr)) (fun _ _ _ t _ => n - (intOf t).toNat)
  case atStart => exact ⟨0, B, B + 1, n, n, _, _, false, Nat.zero_le _, rfl, rfl, rfl, rfl, fun h => by omega, HG2, HT1, HF0, HB2⟩
  case round =>
    clear HG2 HT1 HF0 HB2
    obtain ⟨rr, db, tb, cd, ct, A, H, ls, hrr, rfl, rfl, rfl, rfl, hls, HG, HT, HF, HB⟩ := hrel
    by_cases cr : rr < n
    · have HO := hide (own2 wr)
      have HGa := hide (HG.out.on (b1 wr 2 #[]))
      have hlt : (rr : Int) < n := by omega
      have hdl := HG.out.lt
      have htl := HT.out.lt
      clear hls
      go_wp2_with (first | (refine wpList_copyI rfl _ _ rfl (.slice (some ⟨wr.heap.size, 0, none⟩) 0 0) db n cd wr.heap.size A rfl HO.out rfl HGa.out (by omega) (by simp) ?_; intro v7 w7 hown7 hgr7; obtain ⟨xb, xc, rfl, hxb, hX7⟩ := own_gl hown7 h1n; have HX7 := hide hX7; have HGr := hide hgr7; have HXb := hide hxb; clear hown7 hgr7 hX7 hxb; have HOt := hide (own4 w7); have hq7 := (HGr.out.size); have HT7 : Hid (GT w7 tb n H) := (HT.out.on (b1 wr 2 #[])).of (HGr.out.block tb (by rw [World.size_alloc]; omega) (fun e => by have : tb = wr.heap.size := (by simpa [Value.ownBlock] using e); omega)); have HTa := hide (HT7.out.on (b1 w7 4 #[]))) | (refine wpList_copyT rfl _ _ rfl (.slice (some ⟨w7.heap.size, 0, none⟩) 0 0) tb n ct w7.heap.size H rfl HOt.out rfl HTa.out (by omega) (by simp) ?_; intro v8 w8 hown8 hgr8; obtain ⟨yb, yc, rfl, hyb, hY8⟩ := own_gt hown8 h1n) | fail)
      have hx7 := HX7.out.lt
      have hwz : wr.heap.size < w7.heap.size := by rw [World.size_alloc] at hq7; omega
      have HB7 : Hid (Below B w w7) := (HB.out.alloc (by have := HB.out.size; rw [HB0.out] at this; exact this) _).grown HGr.out (by rw [World.size_alloc]; have := HB.out.size; rw [HB0.out] at this; omega) (fun q hq => by have : wr.heap.size = q := (by simpa [Value.ownBlock] using hq); have := HB.out.size; rw [HB0.out] at this; omega)
      have hBz : B ≤ wr.heap.size := by have := HB.out.size; rw [HB0.out] at this; exact this
      have ne8 : ∀ b, b < w7.heap.size → some b ≠ (Value.slice (some ⟨w7.heap.size, 0, none⟩) 0 0).ownBlock := fun b hb e => by have : b = w7.heap.size := (by simpa [Value.ownBlock] using e); omega
      have HD7 : Hid (GL w7 db n A) := HGa.out.of (HGr.out.block db (by rw [World.size_alloc]; omega) (fun e => by have : db = wr.heap.size := (by simpa [Value.ownBlock] using e); omega))
      have hxb' := HXb.out
      have HQ0 : Hid (Fq w w8 B db tb xb yb n A H A H) := ⟨(HD7.out.on (b1 w7 4 #[])).of (hgr8.block db (by rw [World.size_alloc]; omega) (ne8 db (by omega))), HTa.out.of (hgr8.block tb (by rw [World.size_alloc]; omega) (ne8 tb (by omega))), (HX7.out.on (b1 w7 4 #[])).of (hgr8.block xb (by rw [World.size_alloc]; omega) (ne8 xb hx7)), hY8, (HB7.out.alloc (by omega) _).grown hgr8 (by rw [World.size_alloc]; omega) (fun q hq => by have : w7.heap.size = q := (by simpa [Value.ownBlock] using hq); omega), ⟨by omega, by omega, by omega, by omega, by omega⟩, by omega, by omega⟩
      clear hown8 hgr8 hyb hY8 HOt HTa HT7 HX7 HGr HXb HD7 HB7 HO HGa ne8 hxb' hx7 hwz hq7 hBz HB HG HT hdl htl
      obtain ⟨P, hP⟩ : ∃ P, Dd m s 2 E rr = P := ⟨_, rfl⟩
      have HP := hide hP
      have HPb : Hid (∀ v, P v = 9223372036854775807 ∨ (-2147483648000 ≤ P v ∧ P v ≤ 2147483648000)) := fun v => by rw [← hP]; exact HDb.out rr (by omega) v
      rw [hP] at HF
      clear hP
      go_loopw [9, 13] (fun lv t wr => ∃ (i : Nat) (ls : Bool) (X : Nat → Int) (Y : Nat → Bool), i ≤ m ∧ t = .int .i64 i ∧ lv = .bool ls ∧ Hid (Fq w wr B db tb xb yb n A H X Y) ∧ Hid (Fl n (ex 2 E P i) X Y) ∧ Hid (Cg n 2 E P i ls)) (fun _ t _ => m - (intOf t).toNat)
      case atStart => exact ⟨0, false, A, H, Nat.zero_le _, rfl, rfl, HQ0, HF, Cg.zero n 2 E P⟩
      case round =>
        clear HQ0
        obtain ⟨i, ls, X, Y, hi, rfl, rfl, HQ, HFX, HCg⟩ := hrel
        by_cases ci : i < m
        · obtain ⟨eb, rfl, heb, hce⟩ := HE.out (by omega)
          obtain ⟨x, y, hx, hy, hxn, hyn⟩ := HI.out i ci
          obtain ⟨e1, e2, e3⟩ := hce i ci
          rw [hx] at e1
          rw [hy] at e2
          have t1 : (E i).1.toNat = x := by rw [hx]; rfl
          have t2 : (E i).2.1.toNat = y := by rw [hy]; rfl
          rw [HB0.out] at heb
          have HEb := hide heb
          have HEx : Hid (ex 2 E P (i + 1) = if P x = 9223372036854775807 then ex 2 E P i else if P x + wt 2 (E i).2.2 < ex 2 E P i y then up (ex 2 E P i) y (P x + wt 2 (E i).2.2) else ex 2 E P i) := by show _ = _; rw [ex, t1, t2]
          obtain ⟨z, hz⟩ : ∃ z, (E i).2.2 = z := ⟨_, rfl⟩
          rw [hz] at e3 HEx
          obtain ⟨G, hG⟩ : ∃ G, ex 2 E P i = G := ⟨_, rfl⟩
          rw [hG] at HEx HFX
          have HGe := hide hG
          have d1 := (HQ.out.b.cell (p := ⟨eb, i * 3, none⟩) heb).trans e1
          have d2 := (HQ.out.b.cell (p := ⟨eb, i * 3 + 1, none⟩) heb).trans e2
          have HC3w := hide e3
          have HC3 := hide ((HQ.out.b.cell (p := ⟨eb, i * 3 + 2, none⟩) heb).trans e3)
          have hS9 : Hid (Sf tb yb db xb eb x y (i * 3 + 2) (H x) (Y y) (A x) (X y) z wr.drew) := ⟨HQ.out.t.cell x hxn, HQ.out.y.cell y hyn, HQ.out.d.cell x hxn, HQ.out.x.cell y hyn, HC3.out⟩
          have HWt := hide (rweight_any 2 z)
          have hwz := wt_b 2 z
          have HQd : Hid (Fq w wr.drew B db tb xb yb n A H X Y) := HQ.out.on (belowD (Below.refl _ _))
          have hpb := HPb.out x
          clear hce hx hy e1 e2 e3 t1 t2 hz hG heb
          rcases HF.out x hxn with ⟨hH, hA, hPx⟩ | ⟨hH, hPx⟩
          rotate_left
          · have HEs : Hid (ex 2 E P (i + 1) = G) := by show _ = _; rw [HEx.out, if_pos hPx]
            rw [hH] at hS9
            clear hPx hpb hwz HEx hH
            go_wp2_with (fail)
            refine wp_region_held_drew (S := Sf tb yb db xb eb x y (i * 3 + 2) false (Y y) (A x) (X y) z) (by kernel_rfl) ?_ (fun hHeld => ?_)
            · exact hS9.out
            refine wpAnyH_take (i := 0) (oi := ({ dst := some 50, op := Go.Op.move (Go.Operand.tmp 8), type := 66, pos := "outright.go:89", after := #[], guard := none } : Oper)) (v := ?_) rfl (by kernel_rfl) (by kernel_rfl) (by kernel_rfl) (fun _ _ _ h => h) (Or.inl ⟨by rfl, ?_⟩) (by assumption) ?_
            rotate_left 1
            · (intro w hSw; (try dsimp only at hSw); go_simp; (try with_reducible rfl))
            try simp only [Act.put, List.setIfInBounds_toArray, List.set_cons_zero, List.set_cons_succ]
            refine wpAnyH_take (i := 1) (oi := ({ dst := some 51, op := Go.Op.move (Go.Operand.tmp 14), type := 25, pos := "outright.go:89", after := #[], guard := none } : Oper)) (v := ?_) rfl (by kernel_rfl) (by kernel_rfl) (by kernel_rfl) (fun _ _ _ h => h) (Or.inl ⟨by rfl, ?_⟩) (by assumption) ?_
            rotate_left 1
            · (intro w hSw; (try dsimp only at hSw); go_simp; (try with_reducible rfl))
            try simp only [Act.put, List.setIfInBounds_toArray, List.set_cons_zero, List.set_cons_succ]
            refine wpAnyH_take (i := 2) (oi := ({ dst := some 52, op := Go.Op.indexAddr 66 (Go.Operand.tmp 50) (Go.Operand.tmp 51), type := 0, pos := "outright.go:89", after := #[{ on := 0, ground := Go.Ground.data }, { on := 1, ground := Go.Ground.data }], guard := none } : Oper)) (v := ?_) rfl (by kernel_rfl) (by kernel_rfl) (by kernel_rfl) (fun _ _ _ h => h) (Or.inl ⟨by rfl, ?_⟩) (by assumption) ?_
            rotate_left 1
            · (intro w hSw; (try dsimp only at hSw); go_simp; (try with_reducible rfl))
            try simp only [Act.put, List.setIfInBounds_toArray, List.set_cons_zero, List.set_cons_succ]
            refine wpAnyH_take (i := 3) (oi := ({ dst := some 53, op := Go.Op.load 4 (Go.Operand.tmp 52), type := 4, pos := "outright.go:89", after := #[{ on := 2, ground := Go.Ground.data }], guard := none } : Oper)) (v := ?_) rfl (by kernel_rfl) (by kernel_rfl) (by kernel_rfl) (fun _ _ _ h => h) (Or.inl ⟨by rfl, ?_⟩) (by assumption) ?_
            rotate_left 1
            · (intro w hSw; (try dsimp only at hSw); go_simp; (try with_reducible rfl))
            try simp only [Act.put, List.setIfInBounds_toArray, List.set_cons_zero, List.set_cons_succ]
            refine wpAnyH_take (i := 4) (oi := ({ dst := some 54, op := Go.Op.move (Go.Operand.tmp 53), type := 4, pos := "outright.go:89", after := #[{ on := 3, ground := Go.Ground.data }], guard := none } : Oper)) (v := ?_) rfl (by kernel_rfl) (by kernel_rfl) (by kernel_rfl) (fun _ _ _ h => h) (Or.inl ⟨by rfl, ?_⟩) (by assumption) ?_
            rotate_left 1
            · (intro w hSw; (try dsimp only at hSw); go_simp; (try with_reducible rfl))
            try simp only [Act.put, List.setIfInBounds_toArray, List.set_cons_zero, List.set_cons_succ]
            refine wpAnyH_take (i := 5) (oi := ({ dst := some 55, op := Go.Op.move (Go.Operand.tmp 12), type := 66, pos := "outright.go:89", after := #[{ on := 4, ground := Go.Ground.guard }], guard := some (4, true) } : Oper)) (v := undef) rfl (by kernel_rfl) (by kernel_rfl) (by kernel_rfl) (fun _ _ _ h => h) (Or.inr ⟨by rfl, rfl⟩) (by assumption) ?_
            try simp only [Act.put, List.setIfInBounds_toArray, List.set_cons_zero, List.set_cons_succ]
            refine wpAnyH_take (i := 6) (oi := ({ dst := some 56, op := Go.Op.move (Go.Operand.tmp 15), type := 25, pos := "outright.go:89", after := #[{ on := 4, ground := Go.Ground.guard }], guard := some (4, true) } : Oper)) (v := undef) rfl (by kernel_rfl) (by kernel_rfl) (by kernel_rfl) (fun _ _ _ h => h) (Or.inr ⟨by rfl, rfl⟩) (by assumption) ?_
            try simp only [Act.put, List.setIfInBounds_toArray, List.set_cons_zero, List.set_cons_succ]
            refine wpAnyH_take (i := 7) (oi := ({ dst := some 57, op := Go.Op.indexAddr 66 (Go.Operand.tmp 55) (Go.Operand.tmp 56), type := 0, pos := "outright.go:89", after := #[{ on := 5, ground := Go.Ground.data }, { on := 6, ground := Go.Ground.data }, { on := 4, ground := Go.Ground.guard }], guard := some (4, true) } : Oper)) (v := undef) rfl (by kernel_rfl) (by kernel_rfl) (by kernel_rfl) (fun _ _ _ h => h) (Or.inr ⟨by rfl, rfl⟩) (by assumption) ?_
            try simp only [Act.put, List.setIfInBounds_toArray, List.set_cons_zero, List.set_cons_succ]
            refine wpAnyH_take (i := 8) (oi := ({ dst := some 58, op := Go.Op.load 4 (Go.Operand.tmp 57), type := 4, pos := "outright.go:89", after := #[{ on := 7, ground := Go.Ground.data }, { on := 4, ground := Go.Ground.guard }], guard := some (4, true) } : Oper)) (v := undef) rfl (by kernel_rfl) (by kernel_rfl) (by kernel_rfl) (fun _ _ _ h => h) (Or.inr ⟨by rfl, rfl⟩) (by assumption) ?_
            try simp only [Act.put, List.setIfInBounds_toArray, List.set_cons_zero, List.set_cons_succ]
            refine wpAnyH_take (i := 9) (oi := ({ dst := some 59, op := Go.Op.unOp Go.UnOp.not 4 (Go.Operand.tmp 58), type := 4, pos := "outright.go:89", after := #[{ on := 8, ground := Go.Ground.data }, { on := 4, ground := Go.Ground.guard }], guard := some (4, true) } : Oper)) (v := undef) rfl (by kernel_rfl) (by kernel_rfl) (by kernel_rfl) (fun _ _ _ h => h) (Or.inr ⟨by rfl, rfl⟩) (by assumption) ?_
            try simp only [Act.put, List.setIfInBounds_toArray, List.set_cons_zero, List.set_cons_succ]
            refine wpAnyH_take (i := 10) (oi := ({ dst := some 60, op := Go.Op.move (Go.Operand.tmp 59), type := 4, pos := "outright.go:89", after := #[{ on := 9, ground := Go.Ground.data }, { on := 4, ground := Go.Ground.chain }, { on := 4, ground := Go.Ground.guard }], guard := some (4, true) } : Oper)) (v := undef) rfl (by kernel_rfl) (by kernel_rfl) (by kernel_rfl) (fun _ _ _ h => h) (Or.inr ⟨by rfl, rfl⟩) (by assumption) ?_
            try simp only [Act.put, List.setIfInBounds_toArray, List.set_cons_zero, List.set_cons_succ]
            refine wpAnyH_take (i := 11) (oi := ({ dst := some 61, op := Go.Op.move (Go.Operand.tmp 7), type := 88, pos := "outright.go:89", after := #[{ on := 10, ground := Go.Ground.guard }], guard := some (10, false) } : Oper)) (v := undef) rfl (by kernel_rfl) (by kernel_rfl) (by kernel_rfl) (fun _ _ _ h => h) (Or.inr ⟨by rfl, rfl⟩) (by assumption) ?_
            try simp only [Act.put, List.setIfInBounds_toArray, List.set_cons_zero, List.set_cons_succ]
            refine wpAnyH_take (i := 12) (oi := ({ dst := some 62, op := Go.Op.move (Go.Operand.tmp 14), type := 25, pos := "outright.go:89", after := #[{ on := 10, ground := Go.Ground.guard }], guard := some (10, false) } : Oper)) (v := undef) rfl (by kernel_rfl) (by kernel_rfl) (by kernel_rfl) (fun _ _ _ h => h) (Or.inr ⟨by rfl, rfl⟩) (by assumption) ?_
            try simp only [Act.put, List.setIfInBounds_toArray, List.set_cons_zero, List.set_cons_succ]
            refine wpAnyH_take (i := 13) (oi := ({ dst := some 63, op := Go.Op.indexAddr 88 (Go.Operand.tmp 61) (Go.Operand.tmp 62), type := 0, pos := "outright.go:89", after := #[{ on := 11, ground := Go.Ground.data }, { on := 12, ground := Go.Ground.data }, { on := 10, ground := Go.Ground.guard }], guard := some (10, false) } : Oper)) (v := undef) rfl (by kernel_rfl) (by kernel_rfl) (by kernel_rfl) (fun _ _ _ h => h) (Or.inr ⟨by rfl, rfl⟩) (by assumption) ?_
            try simp only [Act.put, List.setIfInBounds_toArray, List.set_cons_zero, List.set_cons_succ]
            refine wpAnyH_take (i := 14) (oi := ({ dst := some 64, op := Go.Op.load 2 (Go.Operand.tmp 63), type := 2, pos := "outright.go:89", after := #[{ on := 13, ground := Go.Ground.data }, { on := 10, ground := Go.Ground.guard }], guard := some (10, false) } : Oper)) (v := undef) rfl (by kernel_rfl) (by kernel_rfl) (by kernel_rfl) (fun _ _ _ h => h) (Or.inr ⟨by rfl, rfl⟩) (by assumption) ?_
            try simp only [Act.put, List.setIfInBounds_toArray, List.set_cons_zero, List.set_cons_succ]
            refine wpAnyH_take (i := 15) (oi := ({ dst := some 65, op := Go.Op.move (Go.Operand.tmp 2), type := 22, pos := "outright.go:89", after := #[{ on := 10, ground := Go.Ground.guard }], guard := some (10, false) } : Oper)) (v := undef) rfl (by kernel_rfl) (by kernel_rfl) (by kernel_rfl) (fun _ _ _ h => h) (Or.inr ⟨by rfl, rfl⟩) (by assumption) ?_
            try simp only [Act.put, List.setIfInBounds_toArray, List.set_cons_zero, List.set_cons_succ]
            refine wpAnyH_take (i := 16) (oi := ({ dst := some 66, op := Go.Op.move (Go.Operand.tmp 13), type := 3, pos := "outright.go:89", after := #[{ on := 10, ground := Go.Ground.guard }], guard := some (10, false) } : Oper)) (v := undef) rfl (by kernel_rfl) (by kernel_rfl) (by kernel_rfl) (fun _ _ _ h => h) (Or.inr ⟨by rfl, rfl⟩) (by assumption) ?_
            try simp only [Act.put, List.setIfInBounds_toArray, List.set_cons_zero, List.set_cons_succ]
            refine wpAnyH_take (i := 17) (oi := ({ dst := some 67, op := Go.Op.indexAddr 22 (Go.Operand.tmp 65) (Go.Operand.tmp 66), type := 0, pos := "outright.go:89", after := #[{ on := 15, ground := Go.Ground.data }, { on := 16, ground := Go.Ground.data }, { on := 10, ground := Go.Ground.guard }], guard := some (10, false) } : Oper)) (v := undef) rfl (by kernel_rfl) (by kernel_rfl) (by kernel_rfl) (fun _ _ _ h => h) (Or.inr ⟨by rfl, rfl⟩) (by assumption) ?_
            try simp only [Act.put, List.setIfInBounds_toArray, List.set_cons_zero, List.set_cons_succ]
            refine wpAnyH_take (i := 18) (oi := ({ dst := some 68, op := Go.Op.fieldAddr 45 (Go.Operand.tmp 67) 2, type := 0, pos := "outright.go:89", after := #[{ on := 17, ground := Go.Ground.data }, { on := 10, ground := Go.Ground.guard }], guard := some (10, false) } : Oper)) (v := undef) rfl (by kernel_rfl) (by kernel_rfl) (by kernel_rfl) (fun _ _ _ h => h) (Or.inr ⟨by rfl, rfl⟩) (by assumption) ?_
            try simp only [Act.put, List.setIfInBounds_toArray, List.set_cons_zero, List.set_cons_succ]
            refine wpAnyH_take (i := 19) (oi := ({ dst := some 69, op := Go.Op.load 25 (Go.Operand.tmp 68), type := 25, pos := "outright.go:89", after := #[{ on := 18, ground := Go.Ground.data }, { on := 10, ground := Go.Ground.guard }], guard := some (10, false) } : Oper)) (v := undef) rfl (by kernel_rfl) (by kernel_rfl) (by kernel_rfl) (fun _ _ _ h => h) (Or.inr ⟨by rfl, rfl⟩) (by assumption) ?_
            try simp only [Act.put, List.setIfInBounds_toArray, List.set_cons_zero, List.set_cons_succ]
            refine wpAnyH_take (i := 20) (oi := ({ dst := some 70, op := Go.Op.call { callee := Go.Callee.value (Go.Operand.func 23), args := #[Go.Operand.const (Go.Value.int Go.IntKind.i64 2), Go.Operand.tmp 69], argTypes := #[3, 25] }, type := 2, pos := "outright.go:89", after := #[{ on := 19, ground := Go.Ground.data }, { on := 10, ground := Go.Ground.chain }, { on := 10, ground := Go.Ground.guard }], guard := some (10, false) } : Oper)) (v := undef) rfl (by kernel_rfl) (by kernel_rfl) (by kernel_rfl) (fun _ _ _ h => h) (Or.inr ⟨by rfl, rfl⟩) (by assumption) ?_
            try simp only [Act.put, List.setIfInBounds_toArray, List.set_cons_zero, List.set_cons_succ]
            refine wpAnyH_take (i := 21) (oi := ({ dst := some 71, op := Go.Op.binOp Go.BinOp.add 2 (Go.Operand.tmp 64) (Go.Operand.tmp 70) 2, type := 2, pos := "outright.go:89", after := #[{ on := 14, ground := Go.Ground.data }, { on := 20, ground := Go.Ground.data }, { on := 10, ground := Go.Ground.guard }], guard := some (10, false) } : Oper)) (v := undef) rfl (by kernel_rfl) (by kernel_rfl) (by kernel_rfl) (fun _ _ _ h => h) (Or.inr ⟨by rfl, rfl⟩) (by assumption) ?_
            try simp only [Act.put, List.setIfInBounds_toArray, List.set_cons_zero, List.set_cons_succ]
            refine wpAnyH_take (i := 22) (oi := ({ dst := some 72, op := Go.Op.move (Go.Operand.tmp 11), type := 88, pos := "outright.go:89", after := #[{ on := 10, ground := Go.Ground.guard }], guard := some (10, false) } : Oper)) (v := undef) rfl (by kernel_rfl) (by kernel_rfl) (by kernel_rfl) (fun _ _ _ h => h) (Or.inr ⟨by rfl, rfl⟩) (by assumption) ?_
            try simp only [Act.put, List.setIfInBounds_toArray, List.set_cons_zero, List.set_cons_succ]
            refine wpAnyH_take (i := 23) (oi := ({ dst := some 73, op := Go.Op.move (Go.Operand.tmp 15), type := 25, pos := "outright.go:89", after := #[{ on := 10, ground := Go.Ground.guard }], guard := some (10, false) } : Oper)) (v := undef) rfl (by kernel_rfl) (by kernel_rfl) (by kernel_rfl) (fun _ _ _ h => h) (Or.inr ⟨by rfl, rfl⟩) (by assumption) ?_
            try simp only [Act.put, List.setIfInBounds_toArray, List.set_cons_zero, List.set_cons_succ]
            refine wpAnyH_take (i := 24) (oi := ({ dst := some 74, op := Go.Op.indexAddr 88 (Go.Operand.tmp 72) (Go.Operand.tmp 73), type := 0, pos := "outright.go:89", after := #[{ on := 22, ground := Go.Ground.data }, { on := 23, ground := Go.Ground.data }, { on := 10, ground := Go.Ground.guard }], guard := some (10, false) } : Oper)) (v := undef) rfl (by kernel_rfl) (by kernel_rfl) (by kernel_rfl) (fun _ _ _ h => h) (Or.inr ⟨by rfl, rfl⟩) (by assumption) ?_
            try simp only [Act.put, List.setIfInBounds_toArray, List.set_cons_zero, List.set_cons_succ]
            refine wpAnyH_take (i := 25) (oi := ({ dst := some 75, op := Go.Op.load 2 (Go.Operand.tmp 74), type := 2, pos := "outright.go:89", after := #[{ on := 24, ground := Go.Ground.data }, { on := 10, ground := Go.Ground.guard }], guard := some (10, false) } : Oper)) (v := undef) rfl (by kernel_rfl) (by kernel_rfl) (by kernel_rfl) (fun _ _ _ h => h) (Or.inr ⟨by rfl, rfl⟩) (by assumption) ?_
            try simp only [Act.put, List.setIfInBounds_toArray, List.set_cons_zero, List.set_cons_succ]
            refine wpAnyH_take (i := 26) (oi := ({ dst := some 76, op := Go.Op.binOp Go.BinOp.lss 2 (Go.Operand.tmp 71) (Go.Operand.tmp 75) 2, type := 4, pos := "outright.go:89", after := #[{ on := 21, ground := Go.Ground.data }, { on := 25, ground := Go.Ground.data }, { on := 10, ground := Go.Ground.guard }], guard := some (10, false) } : Oper)) (v := undef) rfl (by kernel_rfl) (by kernel_rfl) (by kernel_rfl) (fun _ _ _ h => h) (Or.inr ⟨by rfl, rfl⟩) (by assumption) ?_
            try simp only [Act.put, List.setIfInBounds_toArray, List.set_cons_zero, List.set_cons_succ]
            refine wpAnyH_take (i := 27) (oi := ({ dst := some 77, op := Go.Op.pick (Go.Operand.tmp 60) (Go.Operand.const (Go.Value.bool true)) (Go.Operand.tmp 76), type := 4, pos := "outright.go:89", after := #[{ on := 10, ground := Go.Ground.data }, { on := 26, ground := Go.Ground.data }, { on := 4, ground := Go.Ground.guard }], guard := some (4, true) } : Oper)) (v := undef) rfl (by kernel_rfl) (by kernel_rfl) (by kernel_rfl) (fun _ _ _ h => h) (Or.inr ⟨by rfl, rfl⟩) (by assumption) ?_
            try simp only [Act.put, List.setIfInBounds_toArray, List.set_cons_zero, List.set_cons_succ]
            refine wpAnyH_take (i := 28) (oi := ({ dst := some 78, op := Go.Op.pick (Go.Operand.tmp 54) (Go.Operand.tmp 77) (Go.Operand.const (Go.Value.bool false)), type := 4, pos := "outright.go:89", after := #[{ on := 4, ground := Go.Ground.data }, { on := 27, ground := Go.Ground.data }], guard := none } : Oper)) (v := ?_) rfl (by kernel_rfl) (by kernel_rfl) (by kernel_rfl) (fun _ _ _ h => h) (Or.inl ⟨by rfl, ?_⟩) (by assumption) ?_
            rotate_left 1
            · (intro w hSw; (try dsimp only at hSw); go_simp; (try with_reducible rfl))
            try simp only [Act.put, List.setIfInBounds_toArray, List.set_cons_zero, List.set_cons_succ]
            refine wpAnyH_done (by kernel_rfl) ?_ _
            go_wp2
            go_roundw
            case rel => exact ⟨i + 1, ls, X, Y, ci, by go_num, rfl, HQd, by rw [HEs.out]; exact HFX, HCg.out.same (by rw [HEs.out, HGe.out])⟩
            case measure => simp [intOf]; omega
          have hpb' := hpb.resolve_left hPx
          obtain ⟨q, hq⟩ : ∃ q, A x + wt 2 z = q := ⟨_, rfl⟩
          have hPq : P x + wt 2 z = q := by rw [← hA]; exact hq
          have q5 : IntKind.i64.wrap (A x + wt 2 z) = q := by rw [wi _ (by omega) (by omega)]; exact hq
          have q6 : wrap64 (A x + wt 2 z) = q := by rw [w64 _ (by omega) (by omega)]; exact hq
          have hqb : -2149631131648 ≤ q ∧ q ≤ 2149631131648 := by omega
          rw [hH] at hS9
          clear hq hH hwz hA hpb'
          rcases HFX.out y hyn with ⟨hY, hX, hyb2⟩ | ⟨hY, hyb2⟩
          · rw [hY] at hS9
            by_cases hlt : q < G y
            · have b3 : decide (q < X y) = true := by rw [hX]; simp [hlt]
              clear hX hY
              have HEs : Hid (ex 2 E P (i + 1) = up G y q) := by show _ = _; rw [HEx.out, if_neg hPx, hPq, if_pos hlt]
              have HC2 : Hid (Cg n 2 E P (i + 1) true) := Cg.set y hyn (by rw [HEs.out, up_eq, HGe.out]; exact hlt)
              have HF2 : Hid (Fl n (up G y q) (up X y q) (fun u => if u = y then true else Y u)) := fun v hv => by
                by_cases e : v = y
                · left; subst e; exact ⟨if_pos rfl, by rw [up_eq, up_eq], by rw [up_eq]; omega⟩
                · dsimp only; rw [up_ne _ _ _ _ e, up_ne _ _ _ _ e, if_neg e]; exact HFX.out v hv
              have HQ1 : Hid (Fq w wr.drew.drew B db tb xb yb n A H X Y) := HQ.out.on (belowD (belowD (Below.refl _ _)))
              have HQ2 : Hid (Fq w (wr.setCell ⟨xb, y, none⟩ (.int .i64 q)).drew.drew B db tb xb yb n A H (up X y q) Y) := (HQ.out.setX y q).on (belowD (belowD (Below.refl _ _)))
              have HQ3 : Hid (Fq w ((wr.setCell ⟨xb, y, none⟩ (.int .i64 q)).setCell ⟨yb, y, none⟩ (.bool true)).drew.drew B db tb xb yb n A H (up X y q) (fun u => if u = y then true else Y u)) := ((HQ.out.setX y q).setY y).on (belowD (belowD (Below.refl _ _)))
              have r1 : wr.drew.drew.cell? ⟨xb, y, none⟩ = some (.int .i64 (X y)) := HQ1.out.x.cell y hyn
              have r2 : wr.drew.drew.frozen? ⟨xb, y, none⟩ = false := HQ1.out.x.fz y
              have r3 := HQ2.out.y.cell y hyn
              have r4 := HQ2.out.y.fz y
              have hS10 : Hid (Sk db eb x (i * 3 + 2) (A x) z wr.drew.drew) := ⟨HQ1.out.d.cell x hxn, HC3.out⟩
              have hS11 : Hid (Sk db eb x (i * 3 + 2) (A x) z (wr.setCell ⟨xb, y, none⟩ (.int .i64 q)).drew.drew) := ⟨HQ2.out.d.cell x hxn, (HQ2.out.b.cell (p := ⟨eb, i * 3 + 2, none⟩) HEb.out).trans HC3w.out⟩
              clear hlt hPx hPq hpb hyb2
              go_wp2_with (fail)
              refine wp_region_held_drew (S := Sf tb yb db xb eb x y (i * 3 + 2) true true (A x) (X y) z) (by kernel_rfl) ?_ (fun hHeld => ?_)
              · exact hS9.out
              refine wpAnyH_take (i := 0) (oi := ({ dst := some 50, op := Go.Op.move (Go.Operand.tmp 8), type := 66, pos := "outright.go:89", after := #[], guard := none } : Oper)) (v := ?_) rfl (by kernel_rfl) (by kernel_rfl) (by kernel_rfl) (fun _ _ _ h => h) (Or.inl ⟨by rfl, ?_⟩) (by assumption) ?_
              rotate_left 1
              · (intro w hSw; (try dsimp only at hSw); go_simp; (try with_reducible rfl))
              try simp only [Act.put, List.setIfInBounds_toArray, List.set_cons_zero, List.set_cons_succ]
              refine wpAnyH_take (i := 1) (oi := ({ dst := some 51, op := Go.Op.move (Go.Operand.tmp 14), type := 25, pos := "outright.go:89", after := #[], guard := none } : Oper)) (v := ?_) rfl (by kernel_rfl) (by kernel_rfl) (by kernel_rfl) (fun _ _ _ h => h) (Or.inl ⟨by rfl, ?_⟩) (by assumption) ?_
              rotate_left 1
              · (intro w hSw; (try dsimp only at hSw); go_simp; (try with_reducible rfl))
              try simp only [Act.put, List.setIfInBounds_toArray, List.set_cons_zero, List.set_cons_succ]
              refine wpAnyH_take (i := 2) (oi := ({ dst := some 52, op := Go.Op.indexAddr 66 (Go.Operand.tmp 50) (Go.Operand.tmp 51), type := 0, pos := "outright.go:89", after := #[{ on := 0, ground := Go.Ground.data }, { on := 1, ground := Go.Ground.data }], guard := none } : Oper)) (v := ?_) rfl (by kernel_rfl) (by kernel_rfl) (by kernel_rfl) (fun _ _ _ h => h) (Or.inl ⟨by rfl, ?_⟩) (by assumption) ?_
              rotate_left 1
              · (intro w hSw; (try dsimp only at hSw); go_simp; (try with_reducible rfl))
              try simp only [Act.put, List.setIfInBounds_toArray, List.set_cons_zero, List.set_cons_succ]
              refine wpAnyH_take (i := 3) (oi := ({ dst := some 53, op := Go.Op.load 4 (Go.Operand.tmp 52), type := 4, pos := "outright.go:89", after := #[{ on := 2, ground := Go.Ground.data }], guard := none } : Oper)) (v := ?_) rfl (by kernel_rfl) (by kernel_rfl) (by kernel_rfl) (fun _ _ _ h => h) (Or.inl ⟨by rfl, ?_⟩) (by assumption) ?_
              rotate_left 1
              · (intro w hSw; (try dsimp only at hSw); go_simp; (try with_reducible rfl))
              try simp only [Act.put, List.setIfInBounds_toArray, List.set_cons_zero, List.set_cons_succ]
              refine wpAnyH_take (i := 4) (oi := ({ dst := some 54, op := Go.Op.move (Go.Operand.tmp 53), type := 4, pos := "outright.go:89", after := #[{ on := 3, ground := Go.Ground.data }], guard := none } : Oper)) (v := ?_) rfl (by kernel_rfl) (by kernel_rfl) (by kernel_rfl) (fun _ _ _ h => h) (Or.inl ⟨by rfl, ?_⟩) (by assumption) ?_
              rotate_left 1
              · (intro w hSw; (try dsimp only at hSw); go_simp; (try with_reducible rfl))
              try simp only [Act.put, List.setIfInBounds_toArray, List.set_cons_zero, List.set_cons_succ]
              refine wpAnyH_take (i := 5) (oi := ({ dst := some 55, op := Go.Op.move (Go.Operand.tmp 12), type := 66, pos := "outright.go:89", after := #[{ on := 4, ground := Go.Ground.guard }], guard := some (4, true) } : Oper)) (v := ?_) rfl (by kernel_rfl) (by kernel_rfl) (by kernel_rfl) (fun _ _ _ h => h) (Or.inl ⟨by rfl, ?_⟩) (by assumption) ?_
              rotate_left 1
              · (intro w hSw; (try dsimp only at hSw); go_simp; (try with_reducible rfl))
              try simp only [Act.put, List.setIfInBounds_toArray, List.set_cons_zero, List.set_cons_succ]
              refine wpAnyH_take (i := 6) (oi := ({ dst := some 56, op := Go.Op.move (Go.Operand.tmp 15), type := 25, pos := "outright.go:89", after := #[{ on := 4, ground := Go.Ground.guard }], guard := some (4, true) } : Oper)) (v := ?_) rfl (by kernel_rfl) (by kernel_rfl) (by kernel_rfl) (fun _ _ _ h => h) (Or.inl ⟨by rfl, ?_⟩) (by assumption) ?_
              rotate_left 1
              · (intro w hSw; (try dsimp only at hSw); go_simp; (try with_reducible rfl))
              try simp only [Act.put, List.setIfInBounds_toArray, List.set_cons_zero, List.set_cons_succ]
              refine wpAnyH_take (i := 7) (oi := ({ dst := some 57, op := Go.Op.indexAddr 66 (Go.Operand.tmp 55) (Go.Operand.tmp 56), type := 0, pos := "outright.go:89", after := #[{ on := 5, ground := Go.Ground.data }, { on := 6, ground := Go.Ground.data }, { on := 4, ground := Go.Ground.guard }], guard := some (4, true) } : Oper)) (v := ?_) rfl (by kernel_rfl) (by kernel_rfl) (by kernel_rfl) (fun _ _ _ h => h) (Or.inl ⟨by rfl, ?_⟩) (by assumption) ?_
              rotate_left 1
              · (intro w hSw; (try dsimp only at hSw); go_simp; (try with_reducible rfl))
              try simp only [Act.put, List.setIfInBounds_toArray, List.set_cons_zero, List.set_cons_succ]
              refine wpAnyH_take (i := 8) (oi := ({ dst := some 58, op := Go.Op.load 4 (Go.Operand.tmp 57), type := 4, pos := "outright.go:89", after := #[{ on := 7, ground := Go.Ground.data }, { on := 4, ground := Go.Ground.guard }], guard := some (4, true) } : Oper)) (v := ?_) rfl (by kernel_rfl) (by kernel_rfl) (by kernel_rfl) (fun _ _ _ h => h) (Or.inl ⟨by rfl, ?_⟩) (by assumption) ?_
              rotate_left 1
              · (intro w hSw; (try dsimp only at hSw); go_simp; (try with_reducible rfl))
              try simp only [Act.put, List.setIfInBounds_toArray, List.set_cons_zero, List.set_cons_succ]
              refine wpAnyH_take (i := 9) (oi := ({ dst := some 59, op := Go.Op.unOp Go.UnOp.not 4 (Go.Operand.tmp 58), type := 4, pos := "outright.go:89", after := #[{ on := 8, ground := Go.Ground.data }, { on := 4, ground := Go.Ground.guard }], guard := some (4, true) } : Oper)) (v := ?_) rfl (by kernel_rfl) (by kernel_rfl) (by kernel_rfl) (fun _ _ _ h => h) (Or.inl ⟨by rfl, ?_⟩) (by assumption) ?_
              rotate_left 1
              · (intro w hSw; (try dsimp only at hSw); go_simp; (try with_reducible rfl))
              try simp only [Act.put, List.setIfInBounds_toArray, List.set_cons_zero, List.set_cons_succ]
              refine wpAnyH_take (i := 10) (oi := ({ dst := some 60, op := Go.Op.move (Go.Operand.tmp 59), type := 4, pos := "outright.go:89", after := #[{ on := 9, ground := Go.Ground.data }, { on := 4, ground := Go.Ground.chain }, { on := 4, ground := Go.Ground.guard }], guard := some (4, true) } : Oper)) (v := ?_) rfl (by kernel_rfl) (by kernel_rfl) (by kernel_rfl) (fun _ _ _ h => h) (Or.inl ⟨by rfl, ?_⟩) (by assumption) ?_
              rotate_left 1
              · (intro w hSw; (try dsimp only at hSw); go_simp; (try with_reducible rfl))
              try simp only [Act.put, List.setIfInBounds_toArray, List.set_cons_zero, List.set_cons_succ]
              refine wpAnyH_take (i := 11) (oi := ({ dst := some 61, op := Go.Op.move (Go.Operand.tmp 7), type := 88, pos := "outright.go:89", after := #[{ on := 10, ground := Go.Ground.guard }], guard := some (10, false) } : Oper)) (v := ?_) rfl (by kernel_rfl) (by kernel_rfl) (by kernel_rfl) (fun _ _ _ h => h) (Or.inl ⟨by rfl, ?_⟩) (by assumption) ?_
              rotate_left 1
              · (intro w hSw; (try dsimp only at hSw); go_simp; (try with_reducible rfl))
              try simp only [Act.put, List.setIfInBounds_toArray, List.set_cons_zero, List.set_cons_succ]
              refine wpAnyH_take (i := 12) (oi := ({ dst := some 62, op := Go.Op.move (Go.Operand.tmp 14), type := 25, pos := "outright.go:89", after := #[{ on := 10, ground := Go.Ground.guard }], guard := some (10, false) } : Oper)) (v := ?_) rfl (by kernel_rfl) (by kernel_rfl) (by kernel_rfl) (fun _ _ _ h => h) (Or.inl ⟨by rfl, ?_⟩) (by assumption) ?_
              rotate_left 1
              · (intro w hSw; (try dsimp only at hSw); go_simp; (try with_reducible rfl))
              try simp only [Act.put, List.setIfInBounds_toArray, List.set_cons_zero, List.set_cons_succ]
              refine wpAnyH_take (i := 13) (oi := ({ dst := some 63, op := Go.Op.indexAddr 88 (Go.Operand.tmp 61) (Go.Operand.tmp 62), type := 0, pos := "outright.go:89", after := #[{ on := 11, ground := Go.Ground.data }, { on := 12, ground := Go.Ground.data }, { on := 10, ground := Go.Ground.guard }], guard := some (10, false) } : Oper)) (v := ?_) rfl (by kernel_rfl) (by kernel_rfl) (by kernel_rfl) (fun _ _ _ h => h) (Or.inl ⟨by rfl, ?_⟩) (by assumption) ?_
              rotate_left 1
              · (intro w hSw; (try dsimp only at hSw); go_simp; (try with_reducible rfl))
              try simp only [Act.put, List.setIfInBounds_toArray, List.set_cons_zero, List.set_cons_succ]
              refine wpAnyH_take (i := 14) (oi := ({ dst := some 64, op := Go.Op.load 2 (Go.Operand.tmp 63), type := 2, pos := "outright.go:89", after := #[{ on := 13, ground := Go.Ground.data }, { on := 10, ground := Go.Ground.guard }], guard := some (10, false) } : Oper)) (v := ?_) rfl (by kernel_rfl) (by kernel_rfl) (by kernel_rfl) (fun _ _ _ h => h) (Or.inl ⟨by rfl, ?_⟩) (by assumption) ?_
              rotate_left 1
              · (intro w hSw; (try dsimp only at hSw); go_simp; (try with_reducible rfl))
              try simp only [Act.put, List.setIfInBounds_toArray, List.set_cons_zero, List.set_cons_succ]
              refine wpAnyH_take (i := 15) (oi := ({ dst := some 65, op := Go.Op.move (Go.Operand.tmp 2), type := 22, pos := "outright.go:89", after := #[{ on := 10, ground := Go.Ground.guard }], guard := some (10, false) } : Oper)) (v := ?_) rfl (by kernel_rfl) (by kernel_rfl) (by kernel_rfl) (fun _ _ _ h => h) (Or.inl ⟨by rfl, ?_⟩) (by assumption) ?_
              rotate_left 1
              · (intro w hSw; (try dsimp only at hSw); go_simp; (try with_reducible rfl))
              try simp only [Act.put, List.setIfInBounds_toArray, List.set_cons_zero, List.set_cons_succ]
              refine wpAnyH_take (i := 16) (oi := ({ dst := some 66, op := Go.Op.move (Go.Operand.tmp 13), type := 3, pos := "outright.go:89", after := #[{ on := 10, ground := Go.Ground.guard }], guard := some (10, false) } : Oper)) (v := ?_) rfl (by kernel_rfl) (by kernel_rfl) (by kernel_rfl) (fun _ _ _ h => h) (Or.inl ⟨by rfl, ?_⟩) (by assumption) ?_
              rotate_left 1
              · (intro w hSw; (try dsimp only at hSw); go_simp; (try with_reducible rfl))
              try simp only [Act.put, List.setIfInBounds_toArray, List.set_cons_zero, List.set_cons_succ]
              refine wpAnyH_take (i := 17) (oi := ({ dst := some 67, op := Go.Op.indexAddr 22 (Go.Operand.tmp 65) (Go.Operand.tmp 66), type := 0, pos := "outright.go:89", after := #[{ on := 15, ground := Go.Ground.data }, { on := 16, ground := Go.Ground.data }, { on := 10, ground := Go.Ground.guard }], guard := some (10, false) } : Oper)) (v := ?_) rfl (by kernel_rfl) (by kernel_rfl) (by kernel_rfl) (fun _ _ _ h => h) (Or.inl ⟨by rfl, ?_⟩) (by assumption) ?_
              rotate_left 1
              · (intro w hSw; (try dsimp only at hSw); go_simp; (try with_reducible rfl))
              try simp only [Act.put, List.setIfInBounds_toArray, List.set_cons_zero, List.set_cons_succ]
              refine wpAnyH_take (i := 18) (oi := ({ dst := some 68, op := Go.Op.fieldAddr 45 (Go.Operand.tmp 67) 2, type := 0, pos := "outright.go:89", after := #[{ on := 17, ground := Go.Ground.data }, { on := 10, ground := Go.Ground.guard }], guard := some (10, false) } : Oper)) (v := ?_) rfl (by kernel_rfl) (by kernel_rfl) (by kernel_rfl) (fun _ _ _ h => h) (Or.inl ⟨by rfl, ?_⟩) (by assumption) ?_
              rotate_left 1
              · (intro w hSw; (try dsimp only at hSw); go_simp; (try with_reducible rfl))
              try simp only [Act.put, List.setIfInBounds_toArray, List.set_cons_zero, List.set_cons_succ]
              refine wpAnyH_take (i := 19) (oi := ({ dst := some 69, op := Go.Op.load 25 (Go.Operand.tmp 68), type := 25, pos := "outright.go:89", after := #[{ on := 18, ground := Go.Ground.data }, { on := 10, ground := Go.Ground.guard }], guard := some (10, false) } : Oper)) (v := ?_) rfl (by kernel_rfl) (by kernel_rfl) (by kernel_rfl) (fun _ _ _ h => h) (Or.inl ⟨by rfl, ?_⟩) (by assumption) ?_
              rotate_left 1
              · (intro w hSw; (try dsimp only at hSw); go_simp; (try with_reducible rfl))
              try simp only [Act.put, List.setIfInBounds_toArray, List.set_cons_zero, List.set_cons_succ]
              refine wpAnyH_take (i := 22) (oi := ({ dst := some 72, op := Go.Op.move (Go.Operand.tmp 11), type := 88, pos := "outright.go:89", after := #[{ on := 10, ground := Go.Ground.guard }], guard := some (10, false) } : Oper)) (v := ?_) rfl (by kernel_rfl) (by kernel_rfl) (by kernel_rfl) (fun _ _ _ h => h) (Or.inl ⟨by rfl, ?_⟩) (by assumption) ?_
              rotate_left 1
              · (intro w hSw; (try dsimp only at hSw); go_simp; (try with_reducible rfl))
              try simp only [Act.put, List.setIfInBounds_toArray, List.set_cons_zero, List.set_cons_succ]
              refine wpAnyH_take (i := 23) (oi := ({ dst := some 73, op := Go.Op.move (Go.Operand.tmp 15), type := 25, pos := "outright.go:89", after := #[{ on := 10, ground := Go.Ground.guard }], guard := some (10, false) } : Oper)) (v := ?_) rfl (by kernel_rfl) (by kernel_rfl) (by kernel_rfl) (fun _ _ _ h => h) (Or.inl ⟨by rfl, ?_⟩) (by assumption) ?_
              rotate_left 1
              · (intro w hSw; (try dsimp only at hSw); go_simp; (try with_reducible rfl))
              try simp only [Act.put, List.setIfInBounds_toArray, List.set_cons_zero, List.set_cons_succ]
              refine wpAnyH_take (i := 24) (oi := ({ dst := some 74, op := Go.Op.indexAddr 88 (Go.Operand.tmp 72) (Go.Operand.tmp 73), type := 0, pos := "outright.go:89", after := #[{ on := 22, ground := Go.Ground.data }, { on := 23, ground := Go.Ground.data }, { on := 10, ground := Go.Ground.guard }], guard := some (10, false) } : Oper)) (v := ?_) rfl (by kernel_rfl) (by kernel_rfl) (by kernel_rfl) (fun _ _ _ h => h) (Or.inl ⟨by rfl, ?_⟩) (by assumption) ?_
              rotate_left 1
              · (intro w hSw; (try dsimp only at hSw); go_simp; (try with_reducible rfl))
              try simp only [Act.put, List.setIfInBounds_toArray, List.set_cons_zero, List.set_cons_succ]
              refine wpAnyH_take (i := 25) (oi := ({ dst := some 75, op := Go.Op.load 2 (Go.Operand.tmp 74), type := 2, pos := "outright.go:89", after := #[{ on := 24, ground := Go.Ground.data }, { on := 10, ground := Go.Ground.guard }], guard := some (10, false) } : Oper)) (v := ?_) rfl (by kernel_rfl) (by kernel_rfl) (by kernel_rfl) (fun _ _ _ h => h) (Or.inl ⟨by rfl, ?_⟩) (by assumption) ?_
              rotate_left 1
              · (intro w hSw; (try dsimp only at hSw); go_simp; (try with_reducible rfl))
              try simp only [Act.put, List.setIfInBounds_toArray, List.set_cons_zero, List.set_cons_succ]
              refine wpAnyH_ready (rs := [20]) (by kernel_rfl) (by simp) ?_
              refine AllReadyH.cons (o := ({ dst := some 70, op := Go.Op.call { callee := Go.Callee.value (Go.Operand.func 23), args := #[Go.Operand.const (Go.Value.int Go.IntKind.i64 2), Go.Operand.tmp 69], argTypes := #[3, 25] }, type := 2, pos := "outright.go:89", after := #[{ on := 19, ground := Go.Ground.data }, { on := 10, ground := Go.Ground.chain }, { on := 10, ground := Go.Ground.guard }], guard := some (10, false) } : Oper)) rfl (fun K hK => ?_) AllReadyH.nil
              go_simp
              go_at_call 23
              refine (HWt.out _).mono ?_
              rintro e9 w9 ⟨rfl, hw9⟩
              subst w9
              go_wp2_with (fail)
              refine hK.out _ _ ?_ (fun hHeld => ?_)
              · exact hS9.out
              clear hK K
              try simp only [Act.put, List.setIfInBounds_toArray, List.set_cons_zero, List.set_cons_succ]
              refine wpAnyH_take (i := 21) (oi := ({ dst := some 71, op := Go.Op.binOp Go.BinOp.add 2 (Go.Operand.tmp 64) (Go.Operand.tmp 70) 2, type := 2, pos := "outright.go:89", after := #[{ on := 14, ground := Go.Ground.data }, { on := 20, ground := Go.Ground.data }, { on := 10, ground := Go.Ground.guard }], guard := some (10, false) } : Oper)) (v := ?_) rfl (by kernel_rfl) (by kernel_rfl) (by kernel_rfl) (fun _ _ _ h => h) (Or.inl ⟨by rfl, ?_⟩) (by assumption) ?_
              rotate_left 1
              · (intro w hSw; (try dsimp only at hSw); go_simp; (try with_reducible rfl))
              try simp only [Act.put, List.setIfInBounds_toArray, List.set_cons_zero, List.set_cons_succ]
              refine wpAnyH_take (i := 26) (oi := ({ dst := some 76, op := Go.Op.binOp Go.BinOp.lss 2 (Go.Operand.tmp 71) (Go.Operand.tmp 75) 2, type := 4, pos := "outright.go:89", after := #[{ on := 21, ground := Go.Ground.data }, { on := 25, ground := Go.Ground.data }, { on := 10, ground := Go.Ground.guard }], guard := some (10, false) } : Oper)) (v := ?_) rfl (by kernel_rfl) (by kernel_rfl) (by kernel_rfl) (fun _ _ _ h => h) (Or.inl ⟨by rfl, ?_⟩) (by assumption) ?_
              rotate_left 1
              · (intro w hSw; (try dsimp only at hSw); go_simp; (try with_reducible rfl))
              try simp only [Act.put, List.setIfInBounds_toArray, List.set_cons_zero, List.set_cons_succ]
              refine wpAnyH_take (i := 27) (oi := ({ dst := some 77, op := Go.Op.pick (Go.Operand.tmp 60) (Go.Operand.const (Go.Value.bool true)) (Go.Operand.tmp 76), type := 4, pos := "outright.go:89", after := #[{ on := 10, ground := Go.Ground.data }, { on := 26, ground := Go.Ground.data }, { on := 4, ground := Go.Ground.guard }], guard := some (4, true) } : Oper)) (v := ?_) rfl (by kernel_rfl) (by kernel_rfl) (by kernel_rfl) (fun _ _ _ h => h) (Or.inl ⟨by rfl, ?_⟩) (by assumption) ?_
              rotate_left 1
              · (intro w hSw; (try dsimp only at hSw); go_simp; (try with_reducible rfl))
              try simp only [Act.put, List.setIfInBounds_toArray, List.set_cons_zero, List.set_cons_succ]
              refine wpAnyH_take (i := 28) (oi := ({ dst := some 78, op := Go.Op.pick (Go.Operand.tmp 54) (Go.Operand.tmp 77) (Go.Operand.const (Go.Value.bool false)), type := 4, pos := "outright.go:89", after := #[{ on := 4, ground := Go.Ground.data }, { on := 27, ground := Go.Ground.data }], guard := none } : Oper)) (v := ?_) rfl (by kernel_rfl) (by kernel_rfl) (by kernel_rfl) (fun _ _ _ h => h) (Or.inl ⟨by rfl, ?_⟩) (by assumption) ?_
              rotate_left 1
              · (intro w hSw; (try dsimp only at hSw); go_simp; (try with_reducible rfl))
              try simp only [Act.put, List.setIfInBounds_toArray, List.set_cons_zero, List.set_cons_succ]
              refine wpAnyH_done (by kernel_rfl) ?_ _
              go_wp2_with (fail)
              go_region_held3 (Sk db eb x (i * 3 + 2) (A x) z) ((first | with_reducible exact hS10.out | with_reducible exact hS11.out | exact hS11.out)) ((first | (go_at_call 23; refine (HWt.out _).mono ?_; rintro e9 w9 ⟨rfl, hw9⟩; subst w9)))
              go_wp2
              go_roundw
              case rel => exact ⟨i + 1, true, _, _, ci, by go_num, rfl, HQ3, by rw [HEs.out]; exact HF2, HC2⟩
              case measure => simp [intOf]; omega
            · have b3 : decide (q < X y) = false := by rw [hX]; simp [hlt]
              have HEs : Hid (ex 2 E P (i + 1) = G) := by show _ = _; rw [HEx.out, if_neg hPx, hPq, if_neg hlt]
              clear hX hY hlt hPx hPq hpb hyb2
              go_wp2_with (fail)
              refine wp_region_held_drew (S := Sf tb yb db xb eb x y (i * 3 + 2) true true (A x) (X y) z) (by kernel_rfl) ?_ (fun hHeld => ?_)
              · exact hS9.out
              refine wpAnyH_take (i := 0) (oi := ({ dst := some 50, op := Go.Op.move (Go.Operand.tmp 8), type := 66, pos := "outright.go:89", after := #[], guard := none } : Oper)) (v := ?_) rfl (by kernel_rfl) (by kernel_rfl) (by kernel_rfl) (fun _ _ _ h => h) (Or.inl ⟨by rfl, ?_⟩) (by assumption) ?_
              rotate_left 1
              · (intro w hSw; (try dsimp only at hSw); go_simp; (try with_reducible rfl))
              try simp only [Act.put, List.setIfInBounds_toArray, List.set_cons_zero, List.set_cons_succ]
              refine wpAnyH_take (i := 1) (oi := ({ dst := some 51, op := Go.Op.move (Go.Operand.tmp 14), type := 25, pos := "outright.go:89", after := #[], guard := none } : Oper)) (v := ?_) rfl (by kernel_rfl) (by kernel_rfl) (by kernel_rfl) (fun _ _ _ h => h) (Or.inl ⟨by rfl, ?_⟩) (by assumption) ?_
              rotate_left 1
              · (intro w hSw; (try dsimp only at hSw); go_simp; (try with_reducible rfl))
              try simp only [Act.put, List.setIfInBounds_toArray, List.set_cons_zero, List.set_cons_succ]
              refine wpAnyH_take (i := 2) (oi := ({ dst := some 52, op := Go.Op.indexAddr 66 (Go.Operand.tmp 50) (Go.Operand.tmp 51), type := 0, pos := "outright.go:89", after := #[{ on := 0, ground := Go.Ground.data }, { on := 1, ground := Go.Ground.data }], guard := none } : Oper)) (v := ?_) rfl (by kernel_rfl) (by kernel_rfl) (by kernel_rfl) (fun _ _ _ h => h) (Or.inl ⟨by rfl, ?_⟩) (by assumption) ?_
              rotate_left 1
              · (intro w hSw; (try dsimp only at hSw); go_simp; (try with_reducible rfl))
              try simp only [Act.put, List.setIfInBounds_toArray, List.set_cons_zero, List.set_cons_succ]
              refine wpAnyH_take (i := 3) (oi := ({ dst := some 53, op := Go.Op.load 4 (Go.Operand.tmp 52), type := 4, pos := "outright.go:89", after := #[{ on := 2, ground := Go.Ground.data }], guard := none } : Oper)) (v := ?_) rfl (by kernel_rfl) (by kernel_rfl) (by kernel_rfl) (fun _ _ _ h => h) (Or.inl ⟨by rfl, ?_⟩) (by assumption) ?_
              rotate_left 1
              · (intro w hSw; (try dsimp only at hSw); go_simp; (try with_reducible rfl))
              try simp only [Act.put, List.setIfInBounds_toArray, List.set_cons_zero, List.set_cons_succ]
              refine wpAnyH_take (i := 4) (oi := ({ dst := some 54, op := Go.Op.move (Go.Operand.tmp 53), type := 4, pos := "outright.go:89", after := #[{ on := 3, ground := Go.Ground.data }], guard := none } : Oper)) (v := ?_) rfl (by kernel_rfl) (by kernel_rfl) (by kernel_rfl) (fun _ _ _ h => h) (Or.inl ⟨by rfl, ?_⟩) (by assumption) ?_
              rotate_left 1
              · (intro w hSw; (try dsimp only at hSw); go_simp; (try with_reducible rfl))
              try simp only [Act.put, List.setIfInBounds_toArray, List.set_cons_zero, List.set_cons_succ]
              refine wpAnyH_take (i := 5) (oi := ({ dst := some 55, op := Go.Op.move (Go.Operand.tmp 12), type := 66, pos := "outright.go:89", after := #[{ on := 4, ground := Go.Ground.guard }], guard := some (4, true) } : Oper)) (v := ?_) rfl (by kernel_rfl) (by kernel_rfl) (by kernel_rfl) (fun _ _ _ h => h) (Or.inl ⟨by rfl, ?_⟩) (by assumption) ?_
              rotate_left 1
              · (intro w hSw; (try dsimp only at hSw); go_simp; (try with_reducible rfl))
              try simp only [Act.put, List.setIfInBounds_toArray, List.set_cons_zero, List.set_cons_succ]
              refine wpAnyH_take (i := 6) (oi := ({ dst := some 56, op := Go.Op.move (Go.Operand.tmp 15), type := 25, pos := "outright.go:89", after := #[{ on := 4, ground := Go.Ground.guard }], guard := some (4, true) } : Oper)) (v := ?_) rfl (by kernel_rfl) (by kernel_rfl) (by kernel_rfl) (fun _ _ _ h => h) (Or.inl ⟨by rfl, ?_⟩) (by assumption) ?_
              rotate_left 1
              · (intro w hSw; (try dsimp only at hSw); go_simp; (try with_reducible rfl))
              try simp only [Act.put, List.setIfInBounds_toArray, List.set_cons_zero, List.set_cons_succ]
              refine wpAnyH_take (i := 7) (oi := ({ dst := some 57, op := Go.Op.indexAddr 66 (Go.Operand.tmp 55) (Go.Operand.tmp 56), type := 0, pos := "outright.go:89", after := #[{ on := 5, ground := Go.Ground.data }, { on := 6, ground := Go.Ground.data }, { on := 4, ground := Go.Ground.guard }], guard := some (4, true) } : Oper)) (v := ?_) rfl (by kernel_rfl) (by kernel_rfl) (by kernel_rfl) (fun _ _ _ h => h) (Or.inl ⟨by rfl, ?_⟩) (by assumption) ?_
              rotate_left 1
              · (intro w hSw; (try dsimp only at hSw); go_simp; (try with_reducible rfl))
              try simp only [Act.put, List.setIfInBounds_toArray, List.set_cons_zero, List.set_cons_succ]
              refine wpAnyH_take (i := 8) (oi := ({ dst := some 58, op := Go.Op.load 4 (Go.Operand.tmp 57), type := 4, pos := "outright.go:89", after := #[{ on := 7, ground := Go.Ground.data }, { on := 4, ground := Go.Ground.guard }], guard := some (4, true) } : Oper)) (v := ?_) rfl (by kernel_rfl) (by kernel_rfl) (by kernel_rfl) (fun _ _ _ h => h) (Or.inl ⟨by rfl, ?_⟩) (by assumption) ?_
              rotate_left 1
              · (intro w hSw; (try dsimp only at hSw); go_simp; (try with_reducible rfl))
              try simp only [Act.put, List.setIfInBounds_toArray, List.set_cons_zero, List.set_cons_succ]
              refine wpAnyH_take (i := 9) (oi := ({ dst := some 59, op := Go.Op.unOp Go.UnOp.not 4 (Go.Operand.tmp 58), type := 4, pos := "outright.go:89", after := #[{ on := 8, ground := Go.Ground.data }, { on := 4, ground := Go.Ground.guard }], guard := some (4, true) } : Oper)) (v := ?_) rfl (by kernel_rfl) (by kernel_rfl) (by kernel_rfl) (fun _ _ _ h => h) (Or.inl ⟨by rfl, ?_⟩) (by assumption) ?_
              rotate_left 1
              · (intro w hSw; (try dsimp only at hSw); go_simp; (try with_reducible rfl))
              try simp only [Act.put, List.setIfInBounds_toArray, List.set_cons_zero, List.set_cons_succ]
              refine wpAnyH_take (i := 10) (oi := ({ dst := some 60, op := Go.Op.move (Go.Operand.tmp 59), type := 4, pos := "outright.go:89", after := #[{ on := 9, ground := Go.Ground.data }, { on := 4, ground := Go.Ground.chain }, { on := 4, ground := Go.Ground.guard }], guard := some (4, true) } : Oper)) (v := ?_) rfl (by kernel_rfl) (by kernel_rfl) (by kernel_rfl) (fun _ _ _ h => h) (Or.inl ⟨by rfl, ?_⟩) (by assumption) ?_
              rotate_left 1
              · (intro w hSw; (try dsimp only at hSw); go_simp; (try with_reducible rfl))
              try simp only [Act.put, List.setIfInBounds_toArray, List.set_cons_zero, List.set_cons_succ]
              refine wpAnyH_take (i := 11) (oi := ({ dst := some 61, op := Go.Op.move (Go.Operand.tmp 7), type := 88, pos := "outright.go:89", after := #[{ on := 10, ground := Go.Ground.guard }], guard := some (10, false) } : Oper)) (v := ?_) rfl (by kernel_rfl) (by kernel_rfl) (by kernel_rfl) (fun _ _ _ h => h) (Or.inl ⟨by rfl, ?_⟩) (by assumption) ?_
              rotate_left 1
              · (intro w hSw; (try dsimp only at hSw); go_simp; (try with_reducible rfl))
              try simp only [Act.put, List.setIfInBounds_toArray, List.set_cons_zero, List.set_cons_succ]
              refine wpAnyH_take (i := 12) (oi := ({ dst := some 62, op := Go.Op.move (Go.Operand.tmp 14), type := 25, pos := "outright.go:89", after := #[{ on := 10, ground := Go.Ground.guard }], guard := some (10, false) } : Oper)) (v := ?_) rfl (by kernel_rfl) (by kernel_rfl) (by kernel_rfl) (fun _ _ _ h => h) (Or.inl ⟨by rfl, ?_⟩) (by assumption) ?_
              rotate_left 1
              · (intro w hSw; (try dsimp only at hSw); go_simp; (try with_reducible rfl))
              try simp only [Act.put, List.setIfInBounds_toArray, List.set_cons_zero, List.set_cons_succ]
              refine wpAnyH_take (i := 13) (oi := ({ dst := some 63, op := Go.Op.indexAddr 88 (Go.Operand.tmp 61) (Go.Operand.tmp 62), type := 0, pos := "outright.go:89", after := #[{ on := 11, ground := Go.Ground.data }, { on := 12, ground := Go.Ground.data }, { on := 10, ground := Go.Ground.guard }], guard := some (10, false) } : Oper)) (v := ?_) rfl (by kernel_rfl) (by kernel_rfl) (by kernel_rfl) (fun _ _ _ h => h) (Or.inl ⟨by rfl, ?_⟩) (by assumption) ?_
              rotate_left 1
              · (intro w hSw; (try dsimp only at hSw); go_simp; (try with_reducible rfl))
              try simp only [Act.put, List.setIfInBounds_toArray, List.set_cons_zero, List.set_cons_succ]
              refine wpAnyH_take (i := 14) (oi := ({ dst := some 64, op := Go.Op.load 2 (Go.Operand.tmp 63), type := 2, pos := "outright.go:89", after := #[{ on := 13, ground := Go.Ground.data }, { on := 10, ground := Go.Ground.guard }], guard := some (10, false) } : Oper)) (v := ?_) rfl (by kernel_rfl) (by kernel_rfl) (by kernel_rfl) (fun _ _ _ h => h) (Or.inl ⟨by rfl, ?_⟩) (by assumption) ?_
              rotate_left 1
              · (intro w hSw; (try dsimp only at hSw); go_simp; (try with_reducible rfl))
              try simp only [Act.put, List.setIfInBounds_toArray, List.set_cons_zero, List.set_cons_succ]
              refine wpAnyH_take (i := 15) (oi := ({ dst := some 65, op := Go.Op.move (Go.Operand.tmp 2), type := 22, pos := "outright.go:89", after := #[{ on := 10, ground := Go.Ground.guard }], guard := some (10, false) } : Oper)) (v := ?_) rfl (by kernel_rfl) (by kernel_rfl) (by kernel_rfl) (fun _ _ _ h => h) (Or.inl ⟨by rfl, ?_⟩) (by assumption) ?_
              rotate_left 1
              · (intro w hSw; (try dsimp only at hSw); go_simp; (try with_reducible rfl))
              try simp only [Act.put, List.setIfInBounds_toArray, List.set_cons_zero, List.set_cons_succ]
              refine wpAnyH_take (i := 16) (oi := ({ dst := some 66, op := Go.Op.move (Go.Operand.tmp 13), type := 3, pos := "outright.go:89", after := #[{ on := 10, ground := Go.Ground.guard }], guard := some (10, false) } : Oper)) (v := ?_) rfl (by kernel_rfl) (by kernel_rfl) (by kernel_rfl) (fun _ _ _ h => h) (Or.inl ⟨by rfl, ?_⟩) (by assumption) ?_
              rotate_left 1
              · (intro w hSw; (try dsimp only at hSw); go_simp; (try with_reducible rfl))
              try simp only [Act.put, List.setIfInBounds_toArray, List.set_cons_zero, List.set_cons_succ]
              refine wpAnyH_take (i := 17) (oi := ({ dst := some 67, op := Go.Op.indexAddr 22 (Go.Operand.tmp 65) (Go.Operand.tmp 66), type := 0, pos := "outright.go:89", after := #[{ on := 15, ground := Go.Ground.data }, { on := 16, ground := Go.Ground.data }, { on := 10, ground := Go.Ground.guard }], guard := some (10, false) } : Oper)) (v := ?_) rfl (by kernel_rfl) (by kernel_rfl) (by kernel_rfl) (fun _ _ _ h => h) (Or.inl ⟨by rfl, ?_⟩) (by assumption) ?_
              rotate_left 1
              · (intro w hSw; (try dsimp only at hSw); go_simp; (try with_reducible rfl))
              try simp only [Act.put, List.setIfInBounds_toArray, List.set_cons_zero, List.set_cons_succ]
              refine wpAnyH_take (i := 18) (oi := ({ dst := some 68, op := Go.Op.fieldAddr 45 (Go.Operand.tmp 67) 2, type := 0, pos := "outright.go:89", after := #[{ on := 17, ground := Go.Ground.data }, { on := 10, ground := Go.Ground.guard }], guard := some (10, false) } : Oper)) (v := ?_) rfl (by kernel_rfl) (by kernel_rfl) (by kernel_rfl) (fun _ _ _ h => h) (Or.inl ⟨by rfl, ?_⟩) (by assumption) ?_
              rotate_left 1
              · (intro w hSw; (try dsimp only at hSw); go_simp; (try with_reducible rfl))
              try simp only [Act.put, List.setIfInBounds_toArray, List.set_cons_zero, List.set_cons_succ]
              refine wpAnyH_take (i := 19) (oi := ({ dst := some 69, op := Go.Op.load 25 (Go.Operand.tmp 68), type := 25, pos := "outright.go:89", after := #[{ on := 18, ground := Go.Ground.data }, { on := 10, ground := Go.Ground.guard }], guard := some (10, false) } : Oper)) (v := ?_) rfl (by kernel_rfl) (by kernel_rfl) (by kernel_rfl) (fun _ _ _ h => h) (Or.inl ⟨by rfl, ?_⟩) (by assumption) ?_
              rotate_left 1
              · (intro w hSw; (try dsimp only at hSw); go_simp; (try with_reducible rfl))
              try simp only [Act.put, List.setIfInBounds_toArray, List.set_cons_zero, List.set_cons_succ]
              refine wpAnyH_take (i := 22) (oi := ({ dst := some 72, op := Go.Op.move (Go.Operand.tmp 11), type := 88, pos := "outright.go:89", after := #[{ on := 10, ground := Go.Ground.guard }], guard := some (10, false) } : Oper)) (v := ?_) rfl (by kernel_rfl) (by kernel_rfl) (by kernel_rfl) (fun _ _ _ h => h) (Or.inl ⟨by rfl, ?_⟩) (by assumption) ?_
              rotate_left 1
              · (intro w hSw; (try dsimp only at hSw); go_simp; (try with_reducible rfl))
              try simp only [Act.put, List.setIfInBounds_toArray, List.set_cons_zero, List.set_cons_succ]
              refine wpAnyH_take (i := 23) (oi := ({ dst := some 73, op := Go.Op.move (Go.Operand.tmp 15), type := 25, pos := "outright.go:89", after := #[{ on := 10, ground := Go.Ground.guard }], guard := some (10, false) } : Oper)) (v := ?_) rfl (by kernel_rfl) (by kernel_rfl) (by kernel_rfl) (fun _ _ _ h => h) (Or.inl ⟨by rfl, ?_⟩) (by assumption) ?_
              rotate_left 1
              · (intro w hSw; (try dsimp only at hSw); go_simp; (try with_reducible rfl))
              try simp only [Act.put, List.setIfInBounds_toArray, List.set_cons_zero, List.set_cons_succ]
              refine wpAnyH_take (i := 24) (oi := ({ dst := some 74, op := Go.Op.indexAddr 88 (Go.Operand.tmp 72) (Go.Operand.tmp 73), type := 0, pos := "outright.go:89", after := #[{ on := 22, ground := Go.Ground.data }, { on := 23, ground := Go.Ground.data }, { on := 10, ground := Go.Ground.guard }], guard := some (10, false) } : Oper)) (v := ?_) rfl (by kernel_rfl) (by kernel_rfl) (by kernel_rfl) (fun _ _ _ h => h) (Or.inl ⟨by rfl, ?_⟩) (by assumption) ?_
              rotate_left 1
              · (intro w hSw; (try dsimp only at hSw); go_simp; (try with_reducible rfl))
              try simp only [Act.put, List.setIfInBounds_toArray, List.set_cons_zero, List.set_cons_succ]
              refine wpAnyH_take (i := 25) (oi := ({ dst := some 75, op := Go.Op.load 2 (Go.Operand.tmp 74), type := 2, pos := "outright.go:89", after := #[{ on := 24, ground := Go.Ground.data }, { on := 10, ground := Go.Ground.guard }], guard := some (10, false) } : Oper)) (v := ?_) rfl (by kernel_rfl) (by kernel_rfl) (by kernel_rfl) (fun _ _ _ h => h) (Or.inl ⟨by rfl, ?_⟩) (by assumption) ?_
              rotate_left 1
              · (intro w hSw; (try dsimp only at hSw); go_simp; (try with_reducible rfl))
              try simp only [Act.put, List.setIfInBounds_toArray, List.set_cons_zero, List.set_cons_succ]
              refine wpAnyH_ready (rs := [20]) (by kernel_rfl) (by simp) ?_
              refine AllReadyH.cons (o := ({ dst := some 70, op := Go.Op.call { callee := Go.Callee.value (Go.Operand.func 23), args := #[Go.Operand.const (Go.Value.int Go.IntKind.i64 2), Go.Operand.tmp 69], argTypes := #[3, 25] }, type := 2, pos := "outright.go:89", after := #[{ on := 19, ground := Go.Ground.data }, { on := 10, ground := Go.Ground.chain }, { on := 10, ground := Go.Ground.guard }], guard := some (10, false) } : Oper)) rfl (fun K hK => ?_) AllReadyH.nil
              go_simp
              go_at_call 23
              refine (HWt.out _).mono ?_
              rintro e9 w9 ⟨rfl, hw9⟩
              subst w9
              go_wp2_with (fail)
              refine hK.out _ _ ?_ (fun hHeld => ?_)
              · exact hS9.out
              clear hK K
              try simp only [Act.put, List.setIfInBounds_toArray, List.set_cons_zero, List.set_cons_succ]
              refine wpAnyH_take (i := 21) (oi := ({ dst := some 71, op := Go.Op.binOp Go.BinOp.add 2 (Go.Operand.tmp 64) (Go.Operand.tmp 70) 2, type := 2, pos := "outright.go:89", after := #[{ on := 14, ground := Go.Ground.data }, { on := 20, ground := Go.Ground.data }, { on := 10, ground := Go.Ground.guard }], guard := some (10, false) } : Oper)) (v := ?_) rfl (by kernel_rfl) (by kernel_rfl) (by kernel_rfl) (fun _ _ _ h => h) (Or.inl ⟨by rfl, ?_⟩) (by assumption) ?_
              rotate_left 1
              · (intro w hSw; (try dsimp only at hSw); go_simp; (try with_reducible rfl))
              try simp only [Act.put, List.setIfInBounds_toArray, List.set_cons_zero, List.set_cons_succ]
              refine wpAnyH_take (i := 26) (oi := ({ dst := some 76, op := Go.Op.binOp Go.BinOp.lss 2 (Go.Operand.tmp 71) (Go.Operand.tmp 75) 2, type := 4, pos := "outright.go:89", after := #[{ on := 21, ground := Go.Ground.data }, { on := 25, ground := Go.Ground.data }, { on := 10, ground := Go.Ground.guard }], guard := some (10, false) } : Oper)) (v := ?_) rfl (by kernel_rfl) (by kernel_rfl) (by kernel_rfl) (fun _ _ _ h => h) (Or.inl ⟨by rfl, ?_⟩) (by assumption) ?_
              rotate_left 1
              · (intro w hSw; (try dsimp only at hSw); go_simp; (try with_reducible rfl))
              try simp only [Act.put, List.setIfInBounds_toArray, List.set_cons_zero, List.set_cons_succ]
              refine wpAnyH_take (i := 27) (oi := ({ dst := some 77, op := Go.Op.pick (Go.Operand.tmp 60) (Go.Operand.const (Go.Value.bool true)) (Go.Operand.tmp 76), type := 4, pos := "outright.go:89", after := #[{ on := 10, ground := Go.Ground.data }, { on := 26, ground := Go.Ground.data }, { on := 4, ground := Go.Ground.guard }], guard := some (4, true) } : Oper)) (v := ?_) rfl (by kernel_rfl) (by kernel_rfl) (by kernel_rfl) (fun _ _ _ h => h) (Or.inl ⟨by rfl, ?_⟩) (by assumption) ?_
              rotate_left 1
              · (intro w hSw; (try dsimp only at hSw); go_simp; (try with_reducible rfl))
              try simp only [Act.put, List.setIfInBounds_toArray, List.set_cons_zero, List.set_cons_succ]
              refine wpAnyH_take (i := 28) (oi := ({ dst := some 78, op := Go.Op.pick (Go.Operand.tmp 54) (Go.Operand.tmp 77) (Go.Operand.const (Go.Value.bool false)), type := 4, pos := "outright.go:89", after := #[{ on := 4, ground := Go.Ground.data }, { on := 27, ground := Go.Ground.data }], guard := none } : Oper)) (v := ?_) rfl (by kernel_rfl) (by kernel_rfl) (by kernel_rfl) (fun _ _ _ h => h) (Or.inl ⟨by rfl, ?_⟩) (by assumption) ?_
              rotate_left 1
              · (intro w hSw; (try dsimp only at hSw); go_simp; (try with_reducible rfl))
              try simp only [Act.put, List.setIfInBounds_toArray, List.set_cons_zero, List.set_cons_succ]
              refine wpAnyH_done (by kernel_rfl) ?_ _
              go_wp2
              go_roundw
              case rel => exact ⟨i + 1, ls, X, Y, ci, by go_num, rfl, HQd, by rw [HEs.out]; exact HFX, HCg.out.same (by rw [HEs.out, HGe.out])⟩
              case measure => simp [intOf]; omega
          · rw [hY] at hS9
            have hlt : q < G y := by omega
            clear hY
            have HEs : Hid (ex 2 E P (i + 1) = up G y q) := by show _ = _; rw [HEx.out, if_neg hPx, hPq, if_pos hlt]
            have HC2 : Hid (Cg n 2 E P (i + 1) true) := Cg.set y hyn (by rw [HEs.out, up_eq, HGe.out]; exact hlt)
            have HF2 : Hid (Fl n (up G y q) (up X y q) (fun u => if u = y then true else Y u)) := fun v hv => by
              by_cases e : v = y
              · left; subst e; exact ⟨if_pos rfl, by rw [up_eq, up_eq], by rw [up_eq]; omega⟩
              · dsimp only; rw [up_ne _ _ _ _ e, up_ne _ _ _ _ e, if_neg e]; exact HFX.out v hv
            have HQ1 : Hid (Fq w wr.drew.drew B db tb xb yb n A H X Y) := HQ.out.on (belowD (belowD (Below.refl _ _)))
            have HQ2 : Hid (Fq w (wr.setCell ⟨xb, y, none⟩ (.int .i64 q)).drew.drew B db tb xb yb n A H (up X y q) Y) := (HQ.out.setX y q).on (belowD (belowD (Below.refl _ _)))
            have HQ3 : Hid (Fq w ((wr.setCell ⟨xb, y, none⟩ (.int .i64 q)).setCell ⟨yb, y, none⟩ (.bool true)).drew.drew B db tb xb yb n A H (up X y q) (fun u => if u = y then true else Y u)) := ((HQ.out.setX y q).setY y).on (belowD (belowD (Below.refl _ _)))
            have r1 : wr.drew.drew.cell? ⟨xb, y, none⟩ = some (.int .i64 (X y)) := HQ1.out.x.cell y hyn
            have r2 : wr.drew.drew.frozen? ⟨xb, y, none⟩ = false := HQ1.out.x.fz y
            have r3 := HQ2.out.y.cell y hyn
            have r4 := HQ2.out.y.fz y
            have hS10 : Hid (Sk db eb x (i * 3 + 2) (A x) z wr.drew.drew) := ⟨HQ1.out.d.cell x hxn, HC3.out⟩
            have hS11 : Hid (Sk db eb x (i * 3 + 2) (A x) z (wr.setCell ⟨xb, y, none⟩ (.int .i64 q)).drew.drew) := ⟨HQ2.out.d.cell x hxn, (HQ2.out.b.cell (p := ⟨eb, i * 3 + 2, none⟩) HEb.out).trans HC3w.out⟩
            clear hlt hPx hPq hpb hyb2
            go_wp2_with (fail)
            refine wp_region_held_drew (S := Sf tb yb db xb eb x y (i * 3 + 2) true false (A x) (X y) z) (by kernel_rfl) ?_ (fun hHeld => ?_)
            · exact hS9.out
            refine wpAnyH_take (i := 0) (oi := ({ dst := some 50, op := Go.Op.move (Go.Operand.tmp 8), type := 66, pos := "outright.go:89", after := #[], guard := none } : Oper)) (v := ?_) rfl (by kernel_rfl) (by kernel_rfl) (by kernel_rfl) (fun _ _ _ h => h) (Or.inl ⟨by rfl, ?_⟩) (by assumption) ?_
            rotate_left 1
            · (intro w hSw; (try dsimp only at hSw); go_simp; (try with_reducible rfl))
            try simp only [Act.put, List.setIfInBounds_toArray, List.set_cons_zero, List.set_cons_succ]
            refine wpAnyH_take (i := 1) (oi := ({ dst := some 51, op := Go.Op.move (Go.Operand.tmp 14), type := 25, pos := "outright.go:89", after := #[], guard := none } : Oper)) (v := ?_) rfl (by kernel_rfl) (by kernel_rfl) (by kernel_rfl) (fun _ _ _ h => h) (Or.inl ⟨by rfl, ?_⟩) (by assumption) ?_
            rotate_left 1
            · (intro w hSw; (try dsimp only at hSw); go_simp; (try with_reducible rfl))
            try simp only [Act.put, List.setIfInBounds_toArray, List.set_cons_zero, List.set_cons_succ]
            refine wpAnyH_take (i := 2) (oi := ({ dst := some 52, op := Go.Op.indexAddr 66 (Go.Operand.tmp 50) (Go.Operand.tmp 51), type := 0, pos := "outright.go:89", after := #[{ on := 0, ground := Go.Ground.data }, { on := 1, ground := Go.Ground.data }], guard := none } : Oper)) (v := ?_) rfl (by kernel_rfl) (by kernel_rfl) (by kernel_rfl) (fun _ _ _ h => h) (Or.inl ⟨by rfl, ?_⟩) (by assumption) ?_
            rotate_left 1
            · (intro w hSw; (try dsimp only at hSw); go_simp; (try with_reducible rfl))
            try simp only [Act.put, List.setIfInBounds_toArray, List.set_cons_zero, List.set_cons_succ]
            refine wpAnyH_take (i := 3) (oi := ({ dst := some 53, op := Go.Op.load 4 (Go.Operand.tmp 52), type := 4, pos := "outright.go:89", after := #[{ on := 2, ground := Go.Ground.data }], guard := none } : Oper)) (v := ?_) rfl (by kernel_rfl) (by kernel_rfl) (by kernel_rfl) (fun _ _ _ h => h) (Or.inl ⟨by rfl, ?_⟩) (by assumption) ?_
            rotate_left 1
            · (intro w hSw; (try dsimp only at hSw); go_simp; (try with_reducible rfl))
            try simp only [Act.put, List.setIfInBounds_toArray, List.set_cons_zero, List.set_cons_succ]
            refine wpAnyH_take (i := 4) (oi := ({ dst := some 54, op := Go.Op.move (Go.Operand.tmp 53), type := 4, pos := "outright.go:89", after := #[{ on := 3, ground := Go.Ground.data }], guard := none } : Oper)) (v := ?_) rfl (by kernel_rfl) (by kernel_rfl) (by kernel_rfl) (fun _ _ _ h => h) (Or.inl ⟨by rfl, ?_⟩) (by assumption) ?_
            rotate_left 1
            · (intro w hSw; (try dsimp only at hSw); go_simp; (try with_reducible rfl))
            try simp only [Act.put, List.setIfInBounds_toArray, List.set_cons_zero, List.set_cons_succ]
            refine wpAnyH_take (i := 5) (oi := ({ dst := some 55, op := Go.Op.move (Go.Operand.tmp 12), type := 66, pos := "outright.go:89", after := #[{ on := 4, ground := Go.Ground.guard }], guard := some (4, true) } : Oper)) (v := ?_) rfl (by kernel_rfl) (by kernel_rfl) (by kernel_rfl) (fun _ _ _ h => h) (Or.inl ⟨by rfl, ?_⟩) (by assumption) ?_
            rotate_left 1
            · (intro w hSw; (try dsimp only at hSw); go_simp; (try with_reducible rfl))
            try simp only [Act.put, List.setIfInBounds_toArray, List.set_cons_zero, List.set_cons_succ]
            refine wpAnyH_take (i := 6) (oi := ({ dst := some 56, op := Go.Op.move (Go.Operand.tmp 15), type := 25, pos := "outright.go:89", after := #[{ on := 4, ground := Go.Ground.guard }], guard := some (4, true) } : Oper)) (v := ?_) rfl (by kernel_rfl) (by kernel_rfl) (by kernel_rfl) (fun _ _ _ h => h) (Or.inl ⟨by rfl, ?_⟩) (by assumption) ?_
            rotate_left 1
            · (intro w hSw; (try dsimp only at hSw); go_simp; (try with_reducible rfl))
            try simp only [Act.put, List.setIfInBounds_toArray, List.set_cons_zero, List.set_cons_succ]
            refine wpAnyH_take (i := 7) (oi := ({ dst := some 57, op := Go.Op.indexAddr 66 (Go.Operand.tmp 55) (Go.Operand.tmp 56), type := 0, pos := "outright.go:89", after := #[{ on := 5, ground := Go.Ground.data }, { on := 6, ground := Go.Ground.data }, { on := 4, ground := Go.Ground.guard }], guard := some (4, true) } : Oper)) (v := ?_) rfl (by kernel_rfl) (by kernel_rfl) (by kernel_rfl) (fun _ _ _ h => h) (Or.inl ⟨by rfl, ?_⟩) (by assumption) ?_
            rotate_left 1
            · (intro w hSw; (try dsimp only at hSw); go_simp; (try with_reducible rfl))
            try simp only [Act.put, List.setIfInBounds_toArray, List.set_cons_zero, List.set_cons_succ]
            refine wpAnyH_take (i := 8) (oi := ({ dst := some 58, op := Go.Op.load 4 (Go.Operand.tmp 57), type := 4, pos := "outright.go:89", after := #[{ on := 7, ground := Go.Ground.data }, { on := 4, ground := Go.Ground.guard }], guard := some (4, true) } : Oper)) (v := ?_) rfl (by kernel_rfl) (by kernel_rfl) (by kernel_rfl) (fun _ _ _ h => h) (Or.inl ⟨by rfl, ?_⟩) (by assumption) ?_
            rotate_left 1
            · (intro w hSw; (try dsimp only at hSw); go_simp; (try with_reducible rfl))
            try simp only [Act.put, List.setIfInBounds_toArray, List.set_cons_zero, List.set_cons_succ]
            refine wpAnyH_take (i := 9) (oi := ({ dst := some 59, op := Go.Op.unOp Go.UnOp.not 4 (Go.Operand.tmp 58), type := 4, pos := "outright.go:89", after := #[{ on := 8, ground := Go.Ground.data }, { on := 4, ground := Go.Ground.guard }], guard := some (4, true) } : Oper)) (v := ?_) rfl (by kernel_rfl) (by kernel_rfl) (by kernel_rfl) (fun _ _ _ h => h) (Or.inl ⟨by rfl, ?_⟩) (by assumption) ?_
            rotate_left 1
            · (intro w hSw; (try dsimp only at hSw); go_simp; (try with_reducible rfl))
            try simp only [Act.put, List.setIfInBounds_toArray, List.set_cons_zero, List.set_cons_succ]
            refine wpAnyH_take (i := 10) (oi := ({ dst := some 60, op := Go.Op.move (Go.Operand.tmp 59), type := 4, pos := "outright.go:89", after := #[{ on := 9, ground := Go.Ground.data }, { on := 4, ground := Go.Ground.chain }, { on := 4, ground := Go.Ground.guard }], guard := some (4, true) } : Oper)) (v := ?_) rfl (by kernel_rfl) (by kernel_rfl) (by kernel_rfl) (fun _ _ _ h => h) (Or.inl ⟨by rfl, ?_⟩) (by assumption) ?_
            rotate_left 1
            · (intro w hSw; (try dsimp only at hSw); go_simp; (try with_reducible rfl))
            try simp only [Act.put, List.setIfInBounds_toArray, List.set_cons_zero, List.set_cons_succ]
            refine wpAnyH_take (i := 11) (oi := ({ dst := some 61, op := Go.Op.move (Go.Operand.tmp 7), type := 88, pos := "outright.go:89", after := #[{ on := 10, ground := Go.Ground.guard }], guard := some (10, false) } : Oper)) (v := undef) rfl (by kernel_rfl) (by kernel_rfl) (by kernel_rfl) (fun _ _ _ h => h) (Or.inr ⟨by rfl, rfl⟩) (by assumption) ?_
            try simp only [Act.put, List.setIfInBounds_toArray, List.set_cons_zero, List.set_cons_succ]
            refine wpAnyH_take (i := 12) (oi := ({ dst := some 62, op := Go.Op.move (Go.Operand.tmp 14), type := 25, pos := "outright.go:89", after := #[{ on := 10, ground := Go.Ground.guard }], guard := some (10, false) } : Oper)) (v := undef) rfl (by kernel_rfl) (by kernel_rfl) (by kernel_rfl) (fun _ _ _ h => h) (Or.inr ⟨by rfl, rfl⟩) (by assumption) ?_
            try simp only [Act.put, List.setIfInBounds_toArray, List.set_cons_zero, List.set_cons_succ]
            refine wpAnyH_take (i := 13) (oi := ({ dst := some 63, op := Go.Op.indexAddr 88 (Go.Operand.tmp 61) (Go.Operand.tmp 62), type := 0, pos := "outright.go:89", after := #[{ on := 11, ground := Go.Ground.data }, { on := 12, ground := Go.Ground.data }, { on := 10, ground := Go.Ground.guard }], guard := some (10, false) } : Oper)) (v := undef) rfl (by kernel_rfl) (by kernel_rfl) (by kernel_rfl) (fun _ _ _ h => h) (Or.inr ⟨by rfl, rfl⟩) (by assumption) ?_
            try simp only [Act.put, List.setIfInBounds_toArray, List.set_cons_zero, List.set_cons_succ]
            refine wpAnyH_take (i := 14) (oi := ({ dst := some 64, op := Go.Op.load 2 (Go.Operand.tmp 63), type := 2, pos := "outright.go:89", after := #[{ on := 13, ground := Go.Ground.data }, { on := 10, ground := Go.Ground.guard }], guard := some (10, false) } : Oper)) (v := undef) rfl (by kernel_rfl) (by kernel_rfl) (by kernel_rfl) (fun _ _ _ h => h) (Or.inr ⟨by rfl, rfl⟩) (by assumption) ?_
            try simp only [Act.put, List.setIfInBounds_toArray, List.set_cons_zero, List.set_cons_succ]
            refine wpAnyH_take (i := 15) (oi := ({ dst := some 65, op := Go.Op.move (Go.Operand.tmp 2), type := 22, pos := "outright.go:89", after := #[{ on := 10, ground := Go.Ground.guard }], guard := some (10, false) } : Oper)) (v := undef) rfl (by kernel_rfl) (by kernel_rfl) (by kernel_rfl) (fun _ _ _ h => h) (Or.inr ⟨by rfl, rfl⟩) (by assumption) ?_
            try simp only [Act.put, List.setIfInBounds_toArray, List.set_cons_zero, List.set_cons_succ]
            refine wpAnyH_take (i := 16) (oi := ({ dst := some 66, op := Go.Op.move (Go.Operand.tmp 13), type := 3, pos := "outright.go:89", after := #[{ on := 10, ground := Go.Ground.guard }], guard := some (10, false) } : Oper)) (v := undef) rfl (by kernel_rfl) (by kernel_rfl) (by kernel_rfl) (fun _ _ _ h => h) (Or.inr ⟨by rfl, rfl⟩) (by assumption) ?_
            try simp only [Act.put, List.setIfInBounds_toArray, List.set_cons_zero, List.set_cons_succ]
            refine wpAnyH_take (i := 17) (oi := ({ dst := some 67, op := Go.Op.indexAddr 22 (Go.Operand.tmp 65) (Go.Operand.tmp 66), type := 0, pos := "outright.go:89", after := #[{ on := 15, ground := Go.Ground.data }, { on := 16, ground := Go.Ground.data }, { on := 10, ground := Go.Ground.guard }], guard := some (10, false) } : Oper)) (v := undef) rfl (by kernel_rfl) (by kernel_rfl) (by kernel_rfl) (fun _ _ _ h => h) (Or.inr ⟨by rfl, rfl⟩) (by assumption) ?_
            try simp only [Act.put, List.setIfInBounds_toArray, List.set_cons_zero, List.set_cons_succ]
            refine wpAnyH_take (i := 18) (oi := ({ dst := some 68, op := Go.Op.fieldAddr 45 (Go.Operand.tmp 67) 2, type := 0, pos := "outright.go:89", after := #[{ on := 17, ground := Go.Ground.data }, { on := 10, ground := Go.Ground.guard }], guard := some (10, false) } : Oper)) (v := undef) rfl (by kernel_rfl) (by kernel_rfl) (by kernel_rfl) (fun _ _ _ h => h) (Or.inr ⟨by rfl, rfl⟩) (by assumption) ?_
            try simp only [Act.put, List.setIfInBounds_toArray, List.set_cons_zero, List.set_cons_succ]
            refine wpAnyH_take (i := 19) (oi := ({ dst := some 69, op := Go.Op.load 25 (Go.Operand.tmp 68), type := 25, pos := "outright.go:89", after := #[{ on := 18, ground := Go.Ground.data }, { on := 10, ground := Go.Ground.guard }], guard := some (10, false) } : Oper)) (v := undef) rfl (by kernel_rfl) (by kernel_rfl) (by kernel_rfl) (fun _ _ _ h => h) (Or.inr ⟨by rfl, rfl⟩) (by assumption) ?_
            try simp only [Act.put, List.setIfInBounds_toArray, List.set_cons_zero, List.set_cons_succ]
            refine wpAnyH_take (i := 20) (oi := ({ dst := some 70, op := Go.Op.call { callee := Go.Callee.value (Go.Operand.func 23), args := #[Go.Operand.const (Go.Value.int Go.IntKind.i64 2), Go.Operand.tmp 69], argTypes := #[3, 25] }, type := 2, pos := "outright.go:89", after := #[{ on := 19, ground := Go.Ground.data }, { on := 10, ground := Go.Ground.chain }, { on := 10, ground := Go.Ground.guard }], guard := some (10, false) } : Oper)) (v := undef) rfl (by kernel_rfl) (by kernel_rfl) (by kernel_rfl) (fun _ _ _ h => h) (Or.inr ⟨by rfl, rfl⟩) (by assumption) ?_
            try simp only [Act.put, List.setIfInBounds_toArray, List.set_cons_zero, List.set_cons_succ]
            refine wpAnyH_take (i := 21) (oi := ({ dst := some 71, op := Go.Op.binOp Go.BinOp.add 2 (Go.Operand.tmp 64) (Go.Operand.tmp 70) 2, type := 2, pos := "outright.go:89", after := #[{ on := 14, ground := Go.Ground.data }, { on := 20, ground := Go.Ground.data }, { on := 10, ground := Go.Ground.guard }], guard := some (10, false) } : Oper)) (v := undef) rfl (by kernel_rfl) (by kernel_rfl) (by kernel_rfl) (fun _ _ _ h => h) (Or.inr ⟨by rfl, rfl⟩) (by assumption) ?_
            try simp only [Act.put, List.setIfInBounds_toArray, List.set_cons_zero, List.set_cons_succ]
            refine wpAnyH_take (i := 22) (oi := ({ dst := some 72, op := Go.Op.move (Go.Operand.tmp 11), type := 88, pos := "outright.go:89", after := #[{ on := 10, ground := Go.Ground.guard }], guard := some (10, false) } : Oper)) (v := undef) rfl (by kernel_rfl) (by kernel_rfl) (by kernel_rfl) (fun _ _ _ h => h) (Or.inr ⟨by rfl, rfl⟩) (by assumption) ?_
            try simp only [Act.put, List.setIfInBounds_toArray, List.set_cons_zero, List.set_cons_succ]
            refine wpAnyH_take (i := 23) (oi := ({ dst := some 73, op := Go.Op.move (Go.Operand.tmp 15), type := 25, pos := "outright.go:89", after := #[{ on := 10, ground := Go.Ground.guard }], guard := some (10, false) } : Oper)) (v := undef) rfl (by kernel_rfl) (by kernel_rfl) (by kernel_rfl) (fun _ _ _ h => h) (Or.inr ⟨by rfl, rfl⟩) (by assumption) ?_
            try simp only [Act.put, List.setIfInBounds_toArray, List.set_cons_zero, List.set_cons_succ]
            refine wpAnyH_take (i := 24) (oi := ({ dst := some 74, op := Go.Op.indexAddr 88 (Go.Operand.tmp 72) (Go.Operand.tmp 73), type := 0, pos := "outright.go:89", after := #[{ on := 22, ground := Go.Ground.data }, { on := 23, ground := Go.Ground.data }, { on := 10, ground := Go.Ground.guard }], guard := some (10, false) } : Oper)) (v := undef) rfl (by kernel_rfl) (by kernel_rfl) (by kernel_rfl) (fun _ _ _ h => h) (Or.inr ⟨by rfl, rfl⟩) (by assumption) ?_
            try simp only [Act.put, List.setIfInBounds_toArray, List.set_cons_zero, List.set_cons_succ]
            refine wpAnyH_take (i := 25) (oi := ({ dst := some 75, op := Go.Op.load 2 (Go.Operand.tmp 74), type := 2, pos := "outright.go:89", after := #[{ on := 24, ground := Go.Ground.data }, { on := 10, ground := Go.Ground.guard }], guard := some (10, false) } : Oper)) (v := undef) rfl (by kernel_rfl) (by kernel_rfl) (by kernel_rfl) (fun _ _ _ h => h) (Or.inr ⟨by rfl, rfl⟩) (by assumption) ?_
            try simp only [Act.put, List.setIfInBounds_toArray, List.set_cons_zero, List.set_cons_succ]
            refine wpAnyH_take (i := 26) (oi := ({ dst := some 76, op := Go.Op.binOp Go.BinOp.lss 2 (Go.Operand.tmp 71) (Go.Operand.tmp 75) 2, type := 4, pos := "outright.go:89", after := #[{ on := 21, ground := Go.Ground.data }, { on := 25, ground := Go.Ground.data }, { on := 10, ground := Go.Ground.guard }], guard := some (10, false) } : Oper)) (v := undef) rfl (by kernel_rfl) (by kernel_rfl) (by kernel_rfl) (fun _ _ _ h => h) (Or.inr ⟨by rfl, rfl⟩) (by assumption) ?_
            try simp only [Act.put, List.setIfInBounds_toArray, List.set_cons_zero, List.set_cons_succ]
            refine wpAnyH_take (i := 27) (oi := ({ dst := some 77, op := Go.Op.pick (Go.Operand.tmp 60) (Go.Operand.const (Go.Value.bool true)) (Go.Operand.tmp 76), type := 4, pos := "outright.go:89", after := #[{ on := 10, ground := Go.Ground.data }, { on := 26, ground := Go.Ground.data }, { on := 4, ground := Go.Ground.guard }], guard := some (4, true) } : Oper)) (v := ?_) rfl (by kernel_rfl) (by kernel_rfl) (by kernel_rfl) (fun _ _ _ h => h) (Or.inl ⟨by rfl, ?_⟩) (by assumption) ?_
            rotate_left 1
            · (intro w hSw; (try dsimp only at hSw); go_simp; (try with_reducible rfl))
            try simp only [Act.put, List.setIfInBounds_toArray, List.set_cons_zero, List.set_cons_succ]
            refine wpAnyH_take (i := 28) (oi := ({ dst := some 78, op := Go.Op.pick (Go.Operand.tmp 54) (Go.Operand.tmp 77) (Go.Operand.const (Go.Value.bool false)), type := 4, pos := "outright.go:89", after := #[{ on := 4, ground := Go.Ground.data }, { on := 27, ground := Go.Ground.data }], guard := none } : Oper)) (v := ?_) rfl (by kernel_rfl) (by kernel_rfl) (by kernel_rfl) (fun _ _ _ h => h) (Or.inl ⟨by rfl, ?_⟩) (by assumption) ?_
            rotate_left 1
            · (intro w hSw; (try dsimp only at hSw); go_simp; (try with_reducible rfl))
            try simp only [Act.put, List.setIfInBounds_toArray, List.set_cons_zero, List.set_cons_succ]
            refine wpAnyH_done (by kernel_rfl) ?_ _
            go_wp2_with (fail)
            go_region_held3 (Sk db eb x (i * 3 + 2) (A x) z) ((first | with_reducible exact hS10.out | with_reducible exact hS11.out | exact hS11.out)) ((first | (go_at_call 23; refine (HWt.out _).mono ?_; rintro e9 w9 ⟨rfl, hw9⟩; subst w9)))
            go_wp2
            go_roundw
            case rel => exact ⟨i + 1, true, _, _, ci, by go_num, rfl, HQ3, by rw [HEs.out]; exact HF2, HC2⟩
            case measure => simp [intOf]; omega
        · have him : i = m := by omega
          subst him
          have HGn : Hid (GL wr xb n X) := HQ.out.x
          have HTn : Hid (GT wr yb n Y) := HQ.out.y
          have HBn := hide HQ.out.b
          have HFn : Hid (Fl n (Dd i s 2 E (rr + 1)) X Y) := by show Fl _ _ _ _; rw [Dd, HP.out]; exact HFX.out
          have hl2 : ls = true := HCg.out.2 (by
            obtain ⟨v, hv, hne⟩ := HCh.out rr cr
            rw [Dd, HP.out] at hne
            exact ⟨v, hv, hne⟩)
          subst hl2
          clear HQ HFX HCg ci hi
          go_wp2
          go_roundw
          case rel => exact ⟨rr + 1, xb, yb, _, _, X, Y, true, cr, by go_num, rfl, rfl, rfl, fun _ => rfl, HGn, HTn, HFn, HBn⟩
          case measure => simp [intOf]; omega
    · have hrn : rr = n := by omega
      have hl2 : ls = true := hls (by omega)
      subst hl2
      have hlt : (n : Int) ≤ (rr : Int) := by omega
      have HBf : Hid (Below w.heap.size w wr) := by show Below _ _ _; rw [HB0.out]; exact HB.out
      clear cr hls HG HT HF HB
      go_wp2
      all_goals go_ret
      all_goals exact ⟨rfl, HBf.out⟩
end Wp
end Go.Proofs.Ytlhpnhjfibkgpaa
