import Derived.Test.YtcepfmeoeepjdaaAxD
namespace Go.Proofs.Ytcepfmeoeepjdaa
namespace Au
open Go.RowKit
set_option linter.unusedVariables false
set_option maxRecDepth 8000
abbrev S112 (kb eb qb sg sn sc x y : Nat) (s t : Int) (w : World) : Prop := w.cell? ⟨kb, 0, none⟩ = some (.pointer (some ⟨qb, 0, none⟩)) ∧ w.cell? ⟨qb, 3, none⟩ = some (.slice (some ⟨sg, 0, none⟩) sn sc) ∧ w.cell? ⟨eb, 0, none⟩ = some (.int .u32 (x : Int)) ∧ w.cell? ⟨eb, 1, none⟩ = some (.int .u32 (y : Int)) ∧ w.cell? ⟨sg, x * 8, none⟩ = some (.int .u64 s) ∧ w.cell? ⟨sg, y * 8, none⟩ = some (.int .u64 t)
/-- What an edge leads to. -/
def l1 (S : Nat → Nat → Int) (K R : Nat → Bool) (e : T3) : Nat → Bool := fun v => R v || (S e.1 0 != S e.2.1 0 && S e.2.1 0 == (v : Int) && K (S e.1 0).toNat)
set_option maxHeartbeats 8000000 in
theorem see112 (n m rb kb sg sn sc qb : Nat) (kd : Int) (ed : Value) (o : Vd) (S : Nat → Nat → Int) (K R : Nat → Bool) (e : T3) (hg : Gl S n) (hx : e.1 < n) (hy : e.2.1 < n) (hs : n ≤ sn) (hm : 2 * n ≤ m) (hn : n ≤ 5000) (w : World)
    (hP : Pr w rb n m (w01 K) (w01 R)) (hK : Kb w kb qb rb n) (hQ : Iq w qb n kd ed (.slice (some ⟨sg, 0, none⟩) sn sc) o) (hS : SR w sg sn S)
    (r1 : rb ≠ kb) (r2 : rb ≠ qb) (r3 : rb ≠ sg) :
    Calls Try.prog 112 #[eV e.1 e.2.1 e.2.2, .pointer (some ⟨kb, 0, none⟩)] w fun r w' => (∃ v, r = .returned v) ∧ Pr w' rb n m (w01 K) (w01 (l1 S K R e)) ∧ Ch (fun k => k = rb) w w' := by
  obtain ⟨x, y, z⟩ := e
  simp only at hx hy ⊢
  have hlt := hP.lt
  obtain ⟨a, ha⟩ : ∃ a : Nat, S x 0 = a := ⟨(S x 0).toNat, by have := hg x hx; omega⟩
  obtain ⟨b, hb⟩ : ∃ b : Nat, S y 0 = b := ⟨(S y 0).toNat, by have := hg y hy; omega⟩
  have han : a < n := by have := hg x hx; omega
  have hbn : b < n := by have := hg y hy; omega
  obtain ⟨R1, hR1⟩ : ∃ R1, l1 S K R (x, y, z) = R1 := ⟨_, rfl⟩
  rw [hR1]
  have hl1 : ∀ v, R1 v = (R v || ((a : Int) != (b : Int) && (b : Int) == (v : Int) && K a)) := fun v => by rw [← hR1]; unfold l1; simp only; rw [ha, hb]; simp
  obtain ⟨w0, hw0⟩ : ∃ w0, w.alloc (.cells #[.int .u32 (x : Int), .int .u32 (y : Int), .int .u32 (z : Int)] 73) = w0 := ⟨_, rfl⟩
  have hB0 : Below w.heap.size w w0 := by rw [← hw0]; exact b1 _ _ _
  have hC0 : Ch (fun _ => False) w w0 := Ch.of hB0
  have hK0 : Kb w0 kb qb rb n := (hB0.block _ hK.lt).trans hK
  obtain ⟨k0, k1, k2⟩ := hK0.k
  have q3 := (hQ.on hC0 (fun h => h)).c.2.2.2.1
  have hS0 := hS.on hC0 (fun h => h)
  have sx := hS0.c x (by omega) 0 (by decide)
  have sy := hS0.c y (by omega) 0 (by decide)
  rw [Nat.add_zero, ha] at sx
  rw [Nat.add_zero, hb] at sy
  have he0 : w0.heap[w.heap.size]? = some (.cells #[.int .u32 (x : Int), .int .u32 (y : Int), .int .u32 (z : Int)] 73 (0, 0)) := by rw [← hw0]; exact at0 _ _
  have HS : Hid (S112 kb w.heap.size qb sg sn sc x y (a : Int) (b : Int) w0.drew) := ⟨k0, q3, (cell_of_row _ _ _ _ _ _ he0).trans rfl, (cell_of_row _ _ _ _ _ _ he0).trans rfl, sx, sy⟩
  have hP0 : Pr w0 rb n m (w01 K) (w01 R) := hP.of (hB0.block _ hlt)
  have d1 : w0.drew.cell? ⟨rb, a, none⟩ = some (.int .u64 (w01 K a)) := hP0.d hm a han
  have c1 : w0.drew.cell? ⟨rb, n + b, none⟩ = some (.int .u64 (w01 R b)) := hP0.c hm b hbn
  have f1 : w0.drew.frozen? ⟨rb, n + b, none⟩ = false := hP0.fz (n + b)
  have kk1 : w0.drew.cell? ⟨kb, 1, none⟩ = some (.slice (some ⟨rb, 0, none⟩) n (2 * n)) := k1
  have kk2 : w0.drew.cell? ⟨kb, 2, none⟩ = some (.slice (some ⟨rb, n, none⟩) n n) := k2
  have HSet : Hid ((((a : Int) != (b : Int)) && K a) = true → Pr (w0.drew.setCell ⟨rb, n + b, none⟩ (.int .u64 1)) rb n m (w01 K) (w01 R1) ∧ Ch (fun k => k = rb) w (w0.drew.setCell ⟨rb, n + b, none⟩ (.int .u64 1))) := fun hh => by
    refine ⟨((hP0.of (W' := w0.drew) rfl).setC b hbn 1).ext (fun _ _ => rfl) (fun v hv => ?_), ((Ch.of hB0).drew).set _ _ (Or.inl rfl)⟩
    simp only [Bool.and_eq_true] at hh
    by_cases e : v = b
    · subst e
      rw [up_eq]
      have : R1 v = true := by rw [hl1, hh.1, hh.2]; simp
      rw [w01_t this]
    · rw [up_ne _ _ _ _ e]
      have hbv : ((b : Int) == (v : Int)) = false := by simp; omega
      have : R1 v = R v := by rw [hl1, hbv]; simp
      unfold w01
      rw [this]
  have HNo : Hid ((((a : Int) != (b : Int)) && K a) = false → Pr w0.drew rb n m (w01 K) (w01 R1) ∧ Ch (fun k => k = rb) w w0.drew) := fun hh => by
    refine ⟨(hP0.of (W' := w0.drew) rfl).ext (fun _ _ => rfl) (fun v hv => ?_), (Ch.of hB0).drew⟩
    have : R1 v = R v := by
      rw [hl1]
      cases h1 : ((a : Int) != (b : Int)) with
      | false => simp
      | true =>
        rw [h1] at hh
        have hh' : K a = false := hh
        rw [hh']; simp
    unfold w01
    rw [this]
  have hxn : x < sn := by omega
  have hyn : y < sn := by omega
  have HW0 := hide hw0
  have hai : (a : Int) < (n : Int) := by omega
  have hbi : (b : Int) < (n : Int) := by omega
  clear hP hK hQ hS hB0 hC0 hK0 hS0 hP0 hw0 hl1 hR1 he0 ha hb hg k0 k1 k2 q3 sx sy
  go_enter Try.func112, Try.ntmps112
  go_wp2_with (fail)
  rw [HW0.out]
  go_region_held3 (S112 kb w.heap.size qb sg sn sc x y (a : Int) (b : Int)) ((with_reducible exact HS.out)) ((fail))
  clear HS HW0
  cases hab : ((a : Int) != (b : Int)) with
  | false =>
    have HE := hide (HNo.out (by rw [hab]; rfl))
    clear HSet HNo
    go_wp2
    all_goals go_end0
    all_goals exact ⟨⟨_, rfl⟩, HE.out⟩
  | true =>
    cases hka : K a with
    | true =>
      have HE := hide (HSet.out (by rw [hab, hka]; rfl))
      rw [w01_t hka] at d1
      clear HSet HNo hka
      go_wp2
      all_goals go_end0
      all_goals exact ⟨⟨_, rfl⟩, HE.out⟩
    | false =>
      have HE := hide (HNo.out (by rw [hab, hka]; rfl))
      rw [w01_f hka] at d1
      clear HSet HNo hka
      go_wp2
      all_goals go_end0
      all_goals exact ⟨⟨_, rfl⟩, HE.out⟩
/-- Who is taken away. -/
def tkn (K R : Nat → Bool) : Nat → Bool := fun v => K v && !R v
set_option maxHeartbeats 4000000 in
theorem ktake_any (n m rb qb : Nat) (K R : Nat → Bool) (hm : 2 * n ≤ m) (hn : n ≤ 5000) (w : World) (h : Pr w rb n m (w01 K) (w01 R)) :
    Calls Try.prog 113 #[.agg (pv qb rb n)] w fun e w' => e = .returned (.bool (an (tkn K R) n)) ∧ Pr w' rb n m (w01 (fun v => K v && R v)) (w01 R) ∧ Ch (fun k => k = rb) w w' := by
  have hlt := h.lt
  have hB : Below w.heap.size w (w.alloc (.cells (pv qb rb n) 109)) := b1 _ _ _
  have HP : Hid (Pr (w.alloc (.cells (pv qb rb n) 109)) rb n m (w01 K) (w01 R)) := h.of (hB.block _ hlt)
  have HC0 : Hid (Ch (fun k => k = rb) w (w.alloc (.cells (pv qb rb n) 109))) := Ch.of hB
  have hb0 : Kb (w.alloc (.cells (pv qb rb n) 109)) w.heap.size qb rb n := at0 _ _
  have HB0 := hide hb0
  have HL := hide hlt
  obtain ⟨p0, p1, p2⟩ := hb0.k
  clear h hB hb0 p0 p2
  go_enter Try.func113, Try.ntmps113
  go_wp2_with (fail)
  clear p1
  generalize (w.alloc (.cells (pv qb rb n) 109)) = w0 at *
  go_loopw [8, 2] (fun t u wr => ∃ j : Nat, j ≤ n ∧ t = .int .i64 j ∧ u = .bool (an (tkn K R) j) ∧ Hid (Pr wr rb n m (fun v => if v < j then w01 (fun v => K v && R v) v else w01 K v) (w01 R)) ∧ Hid (Ch (fun k => k = rb) w wr) ∧ Hid (Kb wr w.heap.size qb rb n)) (fun t _ _ => n - (intOf t).toNat)
  case atStart => exact ⟨0, Nat.zero_le _, rfl, rfl, HP.out.ext (fun v hv => by simp) (fun _ _ => rfl), HC0, HB0⟩
  case round =>
    clear HP HC0 HB0
    obtain ⟨j, hj, rfl, rfl, HP, HC, HB⟩ := hrel
    by_cases cc : j < n
    · have hcc : (j : Int) < (n : Int) := by omega
      obtain ⟨p0, p1, p2⟩ := HB.out.k
      have hd := HP.out.d hm j cc
      have hc := HP.out.c hm j cc
      rw [if_neg (Nat.lt_irrefl j)] at hd
      have HNx : Hid ((K j && !R j) = false → Pr wr rb n m (fun v => if v < j + 1 then w01 (fun v => K v && R v) v else w01 K v) (w01 R)) := fun hh => HP.out.ext (fun v hv => by
        by_cases e : v = j
        · subst e
          rw [if_neg (by omega), if_pos (by omega)]
          unfold w01
          cases h1 : K v <;> cases h2 : R v <;> simp_all
        · by_cases e2 : v < j
          · rw [if_pos e2, if_pos (by omega)]
          · rw [if_neg e2, if_neg (by omega)]) (fun _ _ => rfl)
      cases hk : K j with
      | true =>
        rw [w01_t hk] at hd
        cases hr : R j with
        | false =>
          rw [w01_f hr] at hc
          have HA : Hid (an (tkn K R) (j + 1) = true) := by show _ = _; simp only [an, tkn, hk, hr]; simp
          have hf := HP.out.fz j
          have HP1 : Hid (Pr (wr.setCell ⟨rb, j, none⟩ (.int .u64 0)) rb n m (fun v => if v < j + 1 then w01 (fun v => K v && R v) v else w01 K v) (w01 R)) := (HP.out.setD j cc 0).ext (fun v hv => by
            by_cases e : v = j
            · subst e; rw [up_eq, if_pos (by omega)]; unfold w01; simp [hk, hr]
            · rw [up_ne _ _ _ _ e]
              by_cases e2 : v < j
              · rw [if_pos e2, if_pos (by omega)]
              · rw [if_neg e2, if_neg (by omega)]) (fun _ _ => rfl)
          have HC1 : Hid (Ch (fun k => k = rb) w (wr.setCell ⟨rb, j, none⟩ (.int .u64 0))) := HC.out.set _ _ (Or.inl rfl)
          have HB1 : Hid (Kb (wr.setCell ⟨rb, j, none⟩ (.int .u64 0)) w.heap.size qb rb n) := (Below.heap_setCell _ _ _ _ (by have := HL.out; show w.heap.size ≠ rb; omega)).trans HB.out
          clear HP HC HB hk hr HNx
          go_wp2
          all_goals exact ⟨⟨j + 1, cc, by go_num, by rw [HA.out], HP1, HC1, HB1⟩, by simp [intOf]; omega⟩
        | true =>
          rw [w01_t hr] at hc
          have HA : Hid (an (tkn K R) j = an (tkn K R) (j + 1)) := by show _ = _; simp only [an, tkn, hk, hr]; simp
          have HP1 := hide (HNx.out (by rw [hk, hr]; rfl))
          clear HP hk hr HNx
          go_wp2
          all_goals exact ⟨⟨j + 1, cc, by go_num, by rw [HA.out], HP1, HC, HB⟩, by simp [intOf]; omega⟩
      | false =>
        rw [w01_f hk] at hd
        have HA : Hid (an (tkn K R) j = an (tkn K R) (j + 1)) := by show _ = _; simp only [an, tkn, hk]; simp
        have HP1 := hide (HNx.out (by rw [hk]; rfl))
        clear HP hk HNx
        go_wp2
        all_goals exact ⟨⟨j + 1, cc, by go_num, by rw [HA.out], HP1, HC, HB⟩, by simp [intOf]; omega⟩
    · have hjn : n = j := by omega
      subst hjn
      have HE : Hid (Pr wr rb n m (w01 (fun v => K v && R v)) (w01 R)) := HP.out.ext (fun v hv => if_pos hv) (fun _ _ => rfl)
      clear HP HB
      go_wp2
      all_goals go_ret
      all_goals exact ⟨rfl, HE.out, HC.out⟩
abbrev S114 (kb qb rb sg n sn sc v l : Nat) (x : Int) (w : World) : Prop := w.cell? ⟨kb, 0, none⟩ = some (.pointer (some ⟨qb, 0, none⟩)) ∧ w.cell? ⟨kb, 1, none⟩ = some (.slice (some ⟨rb, 0, none⟩) n (2 * n)) ∧ w.cell? ⟨qb, 3, none⟩ = some (.slice (some ⟨sg, 0, none⟩) sn sc) ∧ w.cell? ⟨sg, v * 8, none⟩ = some (.int .u64 (l : Int)) ∧ w.cell? ⟨rb, l, none⟩ = some (.int .u64 x)
set_option maxHeartbeats 4000000 in
theorem rule114 (n m rb kb sg sn sc qb v : Nat) (kd : Int) (ed : Value) (o : Vd) (S : Nat → Nat → Int) (K : Nat → Bool) (C : Nat → Int) (hg : Gl S n) (hv : v < n) (hs : n ≤ sn) (hm : 2 * n ≤ m) (hn : n ≤ 5000) (w : World) (hP : Pr w rb n m (w01 K) C) (hK : Kb w kb qb rb n) (hQ : Iq w qb n kd ed (.slice (some ⟨sg, 0, none⟩) sn sc) o) (hS : SR w sg sn S) :
    Calls Try.prog 114 #[.int .u32 (v : Int), .pointer (some ⟨kb, 0, none⟩)] w fun e w' => e = .returned (.bool (K (S v 0).toNat)) ∧ w' = w.drew := by
  obtain ⟨l, hl⟩ : ∃ l : Nat, S v 0 = l := ⟨(S v 0).toNat, by have := hg v hv; omega⟩
  have hln : l < n := by have := hg v hv; omega
  rw [hl, Int.toNat_natCast]
  obtain ⟨k0, k1, k2⟩ := hK.k
  have s0 := hS.c v (by omega) 0 (by decide)
  rw [Nat.add_zero, hl] at s0
  have HS : Hid (S114 kb qb rb sg n sn sc v l (w01 K l) w.drew) := ⟨k0, k1, hQ.c.2.2.2.1, s0, hP.d hm l hln⟩
  have hvn : v < sn := by omega
  have hli : (l : Int) < (n : Int) := by omega
  clear hP hK hQ hS k0 k1 k2 s0 hl hg
  cases hk : K l with
  | true =>
    rw [w01_t hk] at HS
    clear hk
    go_enter Try.func114, Try.ntmps114
    go_wp2_with (fail)
    go_region_held3 (S114 kb qb rb sg n sn sc v l 1) ((with_reducible exact HS.out)) ((fail))
    clear HS
    go_wp2
    all_goals go_ret
    all_goals exact ⟨rfl, rfl⟩
  | false =>
    rw [w01_f hk] at HS
    clear hk
    go_enter Try.func114, Try.ntmps114
    go_wp2_with (fail)
    go_region_held3 (S114 kb qb rb sg n sn sc v l 0) ((with_reducible exact HS.out)) ((fail))
    clear HS
    go_wp2
    all_goals go_ret
    all_goals exact ⟨rfl, rfl⟩
theorem enters112 (A : Array Value) (W : World) : (callFunc 112 A).run Try.prog W = .ok (.enter 112 A) W := enters_of Try.func112 (by kernel_rfl) rfl A W
theorem enters114 (A : Array Value) (W : World) : (callFunc 114 A).run Try.prog W = .ok (.enter 114 A) W := enters_of Try.func114 (by kernel_rfl) rfl A W
theorem Pr.zerosC {rb n m : Nat} {D : Nat → Int} (l : Nat) : ∀ {W : World} {C : Nat → Int} (o : Nat), Pr W rb n m D C → o + l ≤ n → Pr (W.setCells rb (n + o) (List.replicate l (.int .u64 0))) rb n m D (fun v => if o ≤ v ∧ v < o + l then 0 else C v) := by
  induction l with
  | zero => intro W C o h _; exact h.ext (fun _ _ => rfl) (fun v hv => by rw [if_neg (by omega)])
  | succ l ih =>
    intro W C o h ho
    rw [List.replicate_succ]
    show Pr ((W.setCell ⟨rb, n + o, none⟩ _).setCells rb (n + o + 1) _) _ _ _ _ _
    rw [show n + o + 1 = n + (o + 1) by omega]
    exact (ih (o + 1) (h.setC o (by omega) 0) (by omega)).ext (fun _ _ => rfl) (fun v hv => by
      by_cases e : v = o
      · subst e; rw [if_neg (by omega), if_pos (by omega), up_eq]
      · by_cases e2 : o + 1 ≤ v ∧ v < o + 1 + l
        · rw [if_pos e2, if_pos (by omega)]
        · rw [if_neg e2, if_neg (by omega), up_ne _ _ _ _ e])
theorem clearC_run (n m rb : Nat) (D C : Nat → Int) (hm : 2 * n ≤ m) (hn : 0 < n) (w : World) (h : Pr w rb n m D C) (ty : TypeId) : (Builtin.clear_ #[32] ty #[.slice (some ⟨rb, n, none⟩) n n]).run Try.prog w = .ok (.tuple #[]) (w.setCells rb n (List.replicate n (.int .u64 0))) :=
  Lib.run_clear_slice w 32 28 ty (.int .u64 0) Try.underlying32 (fun w => Try.zeroValue28 w) rfl rfl rb n n n hn (fun j hj => by rw [h.c hm j hj]; rfl) (fun j hj => h.fz _)
end Au
end Go.Proofs.Ytcepfmeoeepjdaa
